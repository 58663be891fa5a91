/-
  WheelPaces returns true for every input: a plan with no more turns on each day than the water is enough for, or the error, is the specification's; all arguments stay, and what is returned shares no memory with them; each argument reads afterwards as it read before. There is no condition.
-/
import Derived.Test.YtacdbjandcdejaaRows
import Derived.Test.YtacdbjandcdejaaZLaw
import Derived.ProofKit
import Derived.OpenShut
import Derived.Lib.SmallJoins
import Derived.Carry
import Derived.Deep.Slices
namespace Go.Proofs.Ytacdbjandcdejaa
open Go.ChangeShapes Go.WideShapes Go.ChangeAt Go.RowKit Go.Joins Go.Deep

theorem laidOut : laidOutB Try.prog = true := by kernel_rfl
theorem cellsPlan : Try.prog.cellsOf 26 = 7 := by kernel_rfl
theorem cellsSale : Try.prog.cellsOf 41 = 4 := by kernel_rfl
theorem cellsArr : Try.prog.cellsOf 43 = 2 := by kernel_rfl
theorem cellsWheels : Try.prog.cellsOf 28 = 1 := by kernel_rfl
theorem cellsPair : Try.prog.cellsOf 63 = 2 := by kernel_rfl
theorem cellsInt : Try.prog.cellsOf 3 = 1 := by kernel_rfl
theorem cellsInts : Try.prog.cellsOf 22 = 1 := by kernel_rfl
theorem cellsSales : Try.prog.cellsOf 24 = 1 := by kernel_rfl
theorem cellsArrs : Try.prog.cellsOf 23 = 1 := by kernel_rfl
theorem ownKnob_none : ownKnob Try.prog.godebug = none := by kernel_rfl
theorem int_max {n : Int} (h : (Lit.int .i64 n).wf = true) : n ≤ 9223372036854775807 := by
  simp [Lit.wf, IntKind.min, IntKind.max, IntKind.bits, IntKind.signed] at h
  omega
theorem array1 {a : Array Value} (h : a.size = 1) : ∃ x0, a = #[x0] := by
  obtain ⟨l⟩ := a
  have h' : l.length = 1 := h
  match l, h' with
  | [x0], _ => exact ⟨_, rfl⟩
theorem array7 {a : Array Value} (h : a.size = 7) : ∃ x0 x1 x2 x3 x4 x5 x6, a = #[x0, x1, x2, x3, x4, x5, x6] := by
  obtain ⟨l⟩ := a
  have h' : l.length = 7 := h
  match l, h' with
  | [x0, x1, x2, x3, x4, x5, x6], _ => exact ⟨_, _, _, _, _, _, _, rfl⟩
section
variable {H : Type} {enc : TypeId × Value → H} {w : World} {base : Nat} {sp : Nat → Bool} {held : Bool}
theorem read_int {n : Nat} {c : Value} {y : DataW H × List MemPlace} (h : DataW.trod enc Try.prog w base sp held n 3 [c] = some y) : ∃ a : Int, c = .int .i64 a ∧ y = (.lit (.int .i64 a), []) ∧ (Lit.int .i64 a).wf = true := by
  obtain ⟨a, e0, hy, wa⟩ := DataW.trod_int Try.underlying3 h
  refine ⟨a, ?_, hy, wa⟩
  simpa using e0
theorem read_num {n : Nat} {cs : List Value} {y : DataW H × List MemPlace} (h : DataW.trod enc Try.prog w base sp held n 3 cs = some y) (hl : cs.length = 1) : ∃ x : Int, cs = [.int .i64 x] ∧ (Lit.int .i64 x).wf = true := by
  match cs, hl with
  | [c0], _ =>
    obtain ⟨x, rfl, _, w0⟩ := read_int h
    exact ⟨x, rfl, w0⟩
set_option maxRecDepth 100000 in
theorem open_nums {n : Nat} {c : Value} {y : DataW H × List MemPlace} (h : DataW.trod enc Try.prog w base sp held n 22 [c] = some y) :
    ∃ (l : Option Addr) (len cap : Nat) (F : Nat → Int), c = .slice l len cap ∧ (l = none → len = 0) ∧ len ≤ cap ∧ NumsAt w l (len * 1) F ∧ ∀ j, j < len * 1 → (Lit.int .i64 (F j)).wf = true := by
  rcases open_slice Try.underlying22 h with ⟨h0, _⟩ | ⟨a, len, cap, m, n', D, Pl, h0, _, hl, hm, hmm, _, hi⟩
  · simp at h0
    subst h0
    exact ⟨none, 0, 0, fun _ => 0, rfl, fun _ => rfl, by omega, fun j hj => by omega, fun j hj => by omega⟩
  · simp at h0
    subst h0
    have hlm : len ≤ m := by rw [hmm]; split <;> omega
    have key : ∀ j, j < len → ∃ x : Int, w.cell? (a.add (j * 1)) = some (.int .i64 x) ∧ (Lit.int .i64 x).wf = true := fun j hj => by
      obtain ⟨cs', hcs, ht⟩ := hi j (by omega)
      rw [cellsInt] at hcs
      obtain ⟨_, hcl, hat⟩ := World.cells?_some hcs
      obtain ⟨x, rfl, b0⟩ := read_num ht hcl
      have k0 := hat 0 (by simp)
      exact ⟨x, by simpa [Go.Deep.add_add] using k0, b0⟩
    by_cases hz : len = 0
    · subst hz
      exact ⟨some a, 0, cap, fun _ => 0, rfl, fun _ => rfl, by omega, fun j hj => by omega, fun j hj => by omega⟩
    · obtain ⟨b, off, spot⟩ := a
      have hspot : spot = none := by
        obtain ⟨x, hx, _⟩ := key 0 (by omega)
        simpa [Addr.add] using World.cell?_spot hx
      subst hspot
      have key2 : ∀ q, q < len * 1 → ∃ x : Int, w.cell? ⟨b, off + q, none⟩ = some (.int .i64 x) ∧ (Lit.int .i64 x).wf = true := fun q hq => by
        obtain ⟨x, h0, b0⟩ := key (q / 1) (by omega)
        rw [Go.WideShapes.add_plain] at h0
        have e : q = q / 1 * 1 := by omega
        exact ⟨x, by rw [e]; exact h0, b0⟩
      refine ⟨some ⟨b, off, none⟩, len, cap, fun j => if hj : j < len * 1 then (key2 j hj).choose else 0, rfl, (fun h => by cases h), hl, fun j hj => ⟨b, off, rfl, ?_⟩, fun j hj => ?_⟩
      · dsimp only
        rw [dif_pos hj]
        exact (key2 j hj).choose_spec.1
      · dsimp only
        rw [dif_pos hj]
        exact (key2 j hj).choose_spec.2
set_option maxRecDepth 100000 in
theorem read_pair {n : Nat} {cs : List Value} {y : DataW H × List MemPlace} (h : DataW.trod enc Try.prog w base sp held n 63 cs = some y) (hl : cs.length = 2) : ∃ x y : Int, cs = [.int .i64 x, .int .i64 y] ∧ (Lit.int .i64 x).wf = true ∧ (Lit.int .i64 y).wf = true := by
  match cs, hl with
  | [c0, c1], _ =>
    obtain ⟨xs, n', _, hx, _, hlen, hg⟩ := DataW.trod_struct Try.underlying63 h
    match xs, hlen with
    | [y0, y1], _ =>
      have g0 := hg 0 _ rfl
      have g1 := hg 1 _ rfl
      simp [cellsInt] at g0 g1
      obtain ⟨x, rfl, _, w0⟩ := read_int g0
      obtain ⟨y, rfl, _, w1⟩ := read_int g1
      exact ⟨x, y, rfl, w0, w1⟩
set_option maxRecDepth 100000 in
theorem open_pairs {n : Nat} {c : Value} {y : DataW H × List MemPlace} (h : DataW.trod enc Try.prog w base sp held n 29 [c] = some y) :
    ∃ (l : Option Addr) (len cap : Nat) (F : Nat → Int), c = .slice l len cap ∧ (l = none → len = 0) ∧ len ≤ cap ∧ NumsAt w l (len * 2) F ∧ ∀ j, j < len * 2 → (Lit.int .i64 (F j)).wf = true := by
  rcases open_slice Try.underlying29 h with ⟨h0, _⟩ | ⟨a, len, cap, m, n', D, Pl, h0, _, hl, hm, hmm, _, hi⟩
  · simp at h0
    subst h0
    exact ⟨none, 0, 0, fun _ => 0, rfl, fun _ => rfl, by omega, fun j hj => by omega, fun j hj => by omega⟩
  · simp at h0
    subst h0
    have hlm : len ≤ m := by rw [hmm]; split <;> omega
    have key : ∀ j, j < len → ∃ x y : Int, w.cell? (a.add (j * 2)) = some (.int .i64 x) ∧ w.cell? (a.add (j * 2 + 1)) = some (.int .i64 y) ∧ (Lit.int .i64 x).wf = true ∧ (Lit.int .i64 y).wf = true := fun j hj => by
      obtain ⟨cs', hcs, ht⟩ := hi j (by omega)
      rw [cellsPair] at hcs
      obtain ⟨_, hcl, hat⟩ := World.cells?_some hcs
      obtain ⟨x, y, rfl, b0, b1⟩ := read_pair ht hcl
      have k0 := hat 0 (by simp)
      have k1 := hat 1 (by simp)
      exact ⟨x, y, by simpa [Go.Deep.add_add] using k0, by simpa [Go.Deep.add_add] using k1, b0, b1⟩
    by_cases hz : len = 0
    · subst hz
      exact ⟨some a, 0, cap, fun _ => 0, rfl, fun _ => rfl, by omega, fun j hj => by omega, fun j hj => by omega⟩
    · obtain ⟨b, off, spot⟩ := a
      have hspot : spot = none := by
        obtain ⟨x, _, hx, _⟩ := key 0 (by omega)
        simpa [Addr.add] using World.cell?_spot hx
      subst hspot
      have key2 : ∀ q, q < len * 2 → ∃ x : Int, w.cell? ⟨b, off + q, none⟩ = some (.int .i64 x) ∧ (Lit.int .i64 x).wf = true := fun q hq => by
        obtain ⟨x, y, h0, h1, b0, b1⟩ := key (q / 2) (by omega)
        rw [Go.WideShapes.add_plain] at h0 h1
        have hq3 : q = q / 2 * 2 ∨ q = q / 2 * 2 + 1 := by omega
        rcases hq3 with e | e
        · exact ⟨x, by rw [e]; exact h0, b0⟩
        · exact ⟨y, by rw [e]; exact h1, b1⟩
      refine ⟨some ⟨b, off, none⟩, len, cap, fun j => if hj : j < len * 2 then (key2 j hj).choose else 0, rfl, (fun h => by cases h), hl, fun j hj => ⟨b, off, rfl, ?_⟩, fun j hj => ?_⟩
      · dsimp only
        rw [dif_pos hj]
        exact (key2 j hj).choose_spec.1
      · dsimp only
        rw [dif_pos hj]
        exact (key2 j hj).choose_spec.2
set_option maxRecDepth 100000 in
theorem read_arr {n : Nat} {cs : List Value} {y : DataW H × List MemPlace} (h : DataW.trod enc Try.prog w base sp held n 43 cs = some y) (hl : cs.length = 2) : ∃ x y : Int, cs = [.int .i64 x, .int .i64 y] ∧ (Lit.int .i64 x).wf = true ∧ (Lit.int .i64 y).wf = true := by
  match cs, hl with
  | [c0, c1], _ =>
    obtain ⟨xs, n', _, hx, _, hlen, hg⟩ := DataW.trod_struct Try.underlying43 h
    match xs, hlen with
    | [y0, y1], _ =>
      have g0 := hg 0 _ rfl
      have g1 := hg 1 _ rfl
      simp [cellsInt] at g0 g1
      obtain ⟨x, rfl, _, w0⟩ := read_int g0
      obtain ⟨y, rfl, _, w1⟩ := read_int g1
      exact ⟨x, y, rfl, w0, w1⟩
set_option maxRecDepth 100000 in
theorem open_arrs {n : Nat} {c : Value} {y : DataW H × List MemPlace} (h : DataW.trod enc Try.prog w base sp held n 23 [c] = some y) :
    ∃ (l : Option Addr) (len cap : Nat) (F : Nat → Int), c = .slice l len cap ∧ (l = none → len = 0) ∧ len ≤ cap ∧ NumsAt w l (len * 2) F ∧ ∀ j, j < len * 2 → (Lit.int .i64 (F j)).wf = true := by
  rcases open_slice Try.underlying23 h with ⟨h0, _⟩ | ⟨a, len, cap, m, n', D, Pl, h0, _, hl, hm, hmm, _, hi⟩
  · simp at h0
    subst h0
    exact ⟨none, 0, 0, fun _ => 0, rfl, fun _ => rfl, by omega, fun j hj => by omega, fun j hj => by omega⟩
  · simp at h0
    subst h0
    have hlm : len ≤ m := by rw [hmm]; split <;> omega
    have key : ∀ j, j < len → ∃ x y : Int, w.cell? (a.add (j * 2)) = some (.int .i64 x) ∧ w.cell? (a.add (j * 2 + 1)) = some (.int .i64 y) ∧ (Lit.int .i64 x).wf = true ∧ (Lit.int .i64 y).wf = true := fun j hj => by
      obtain ⟨cs', hcs, ht⟩ := hi j (by omega)
      rw [cellsArr] at hcs
      obtain ⟨_, hcl, hat⟩ := World.cells?_some hcs
      obtain ⟨x, y, rfl, b0, b1⟩ := read_arr ht hcl
      have k0 := hat 0 (by simp)
      have k1 := hat 1 (by simp)
      exact ⟨x, y, by simpa [Go.Deep.add_add] using k0, by simpa [Go.Deep.add_add] using k1, b0, b1⟩
    by_cases hz : len = 0
    · subst hz
      exact ⟨some a, 0, cap, fun _ => 0, rfl, fun _ => rfl, by omega, fun j hj => by omega, fun j hj => by omega⟩
    · obtain ⟨b, off, spot⟩ := a
      have hspot : spot = none := by
        obtain ⟨x, _, hx, _⟩ := key 0 (by omega)
        simpa [Addr.add] using World.cell?_spot hx
      subst hspot
      have key2 : ∀ q, q < len * 2 → ∃ x : Int, w.cell? ⟨b, off + q, none⟩ = some (.int .i64 x) ∧ (Lit.int .i64 x).wf = true := fun q hq => by
        obtain ⟨x, y, h0, h1, b0, b1⟩ := key (q / 2) (by omega)
        rw [Go.WideShapes.add_plain] at h0 h1
        have hq3 : q = q / 2 * 2 ∨ q = q / 2 * 2 + 1 := by omega
        rcases hq3 with e | e
        · exact ⟨x, by rw [e]; exact h0, b0⟩
        · exact ⟨y, by rw [e]; exact h1, b1⟩
      refine ⟨some ⟨b, off, none⟩, len, cap, fun j => if hj : j < len * 2 then (key2 j hj).choose else 0, rfl, (fun h => by cases h), hl, fun j hj => ⟨b, off, rfl, ?_⟩, fun j hj => ?_⟩
      · dsimp only
        rw [dif_pos hj]
        exact (key2 j hj).choose_spec.1
      · dsimp only
        rw [dif_pos hj]
        exact (key2 j hj).choose_spec.2
set_option maxRecDepth 100000 in
theorem read_sale {n : Nat} {cs : List Value} {y : DataW H × List MemPlace} (h : DataW.trod enc Try.prog w base sp held n 41 cs = some y) (hl : cs.length = 4) : ∃ x y z u : Int, cs = [.int .i64 x, .int .i64 y, .int .i64 z, .int .i64 u] ∧ (Lit.int .i64 x).wf = true ∧ (Lit.int .i64 y).wf = true ∧ (Lit.int .i64 z).wf = true ∧ (Lit.int .i64 u).wf = true := by
  match cs, hl with
  | [c0, c1, c2, c3], _ =>
    obtain ⟨xs, n', _, hx, _, hlen, hg⟩ := DataW.trod_struct Try.underlying41 h
    match xs, hlen with
    | [y0, y1, y2, y3], _ =>
      have g0 := hg 0 _ rfl
      have g1 := hg 1 _ rfl
      have g2 := hg 2 _ rfl
      have g3 := hg 3 _ rfl
      simp [cellsInt] at g0 g1 g2 g3
      obtain ⟨x, rfl, _, w0⟩ := read_int g0
      obtain ⟨y, rfl, _, w1⟩ := read_int g1
      obtain ⟨z, rfl, _, w2⟩ := read_int g2
      obtain ⟨u, rfl, _, w3⟩ := read_int g3
      exact ⟨x, y, z, u, rfl, w0, w1, w2, w3⟩
set_option maxRecDepth 100000 in
theorem open_sales {n : Nat} {c : Value} {y : DataW H × List MemPlace} (h : DataW.trod enc Try.prog w base sp held n 24 [c] = some y) :
    ∃ (l : Option Addr) (len cap : Nat) (F : Nat → Int), c = .slice l len cap ∧ (l = none → len = 0) ∧ len ≤ cap ∧ NumsAt w l (len * 4) F ∧ ∀ j, j < len * 4 → (Lit.int .i64 (F j)).wf = true := by
  rcases open_slice Try.underlying24 h with ⟨h0, _⟩ | ⟨a, len, cap, m, n', D, Pl, h0, _, hl, hm, hmm, _, hi⟩
  · simp at h0
    subst h0
    exact ⟨none, 0, 0, fun _ => 0, rfl, fun _ => rfl, by omega, fun j hj => by omega, fun j hj => by omega⟩
  · simp at h0
    subst h0
    have hlm : len ≤ m := by rw [hmm]; split <;> omega
    have key : ∀ j, j < len → ∃ x y z u : Int, w.cell? (a.add (j * 4)) = some (.int .i64 x) ∧ w.cell? (a.add (j * 4 + 1)) = some (.int .i64 y) ∧ w.cell? (a.add (j * 4 + 2)) = some (.int .i64 z) ∧ w.cell? (a.add (j * 4 + 3)) = some (.int .i64 u) ∧ (Lit.int .i64 x).wf = true ∧ (Lit.int .i64 y).wf = true ∧ (Lit.int .i64 z).wf = true ∧ (Lit.int .i64 u).wf = true := fun j hj => by
      obtain ⟨cs', hcs, ht⟩ := hi j (by omega)
      rw [cellsSale] at hcs
      obtain ⟨_, hcl, hat⟩ := World.cells?_some hcs
      obtain ⟨x, y, z, u, rfl, b0, b1, b2, b3⟩ := read_sale ht hcl
      have k0 := hat 0 (by simp)
      have k1 := hat 1 (by simp)
      have k2 := hat 2 (by simp)
      have k3 := hat 3 (by simp)
      exact ⟨x, y, z, u, by simpa [Go.Deep.add_add] using k0, by simpa [Go.Deep.add_add] using k1, by simpa [Go.Deep.add_add] using k2, by simpa [Go.Deep.add_add] using k3, b0, b1, b2, b3⟩
    by_cases hz : len = 0
    · subst hz
      exact ⟨some a, 0, cap, fun _ => 0, rfl, fun _ => rfl, by omega, fun j hj => by omega, fun j hj => by omega⟩
    · obtain ⟨b, off, spot⟩ := a
      have hspot : spot = none := by
        obtain ⟨x, _, _, _, hx, _⟩ := key 0 (by omega)
        simpa [Addr.add] using World.cell?_spot hx
      subst hspot
      have key2 : ∀ q, q < len * 4 → ∃ x : Int, w.cell? ⟨b, off + q, none⟩ = some (.int .i64 x) ∧ (Lit.int .i64 x).wf = true := fun q hq => by
        obtain ⟨x, y, z, u, h0, h1, h2, h3, b0, b1, b2, b3⟩ := key (q / 4) (by omega)
        rw [Go.WideShapes.add_plain] at h0 h1 h2 h3
        have hq3 : q = q / 4 * 4 ∨ q = q / 4 * 4 + 1 ∨ q = q / 4 * 4 + 2 ∨ q = q / 4 * 4 + 3 := by omega
        rcases hq3 with e | e | e | e
        · exact ⟨x, by rw [e]; exact h0, b0⟩
        · exact ⟨y, by rw [e]; exact h1, b1⟩
        · exact ⟨z, by rw [e]; exact h2, b2⟩
        · exact ⟨u, by rw [e]; exact h3, b3⟩
      refine ⟨some ⟨b, off, none⟩, len, cap, fun j => if hj : j < len * 4 then (key2 j hj).choose else 0, rfl, (fun h => by cases h), hl, fun j hj => ⟨b, off, rfl, ?_⟩, fun j hj => ?_⟩
      · dsimp only
        rw [dif_pos hj]
        exact (key2 j hj).choose_spec.1
      · dsimp only
        rw [dif_pos hj]
        exact (key2 j hj).choose_spec.2
set_option maxRecDepth 100000 in
/-- A train that came in. -/
theorem open_train {r : Reach} {b0 : Nat} {v : Value} {d : DataW H} {p : List MemPlace} (hv : Value.okWide Try.prog w r b0 29 v) (h : DataW.Trod enc Try.prog w base sp held 29 v d p) :
    ∃ (l : Option Addr) (len cap : Nat) (F : Nat → Int), v = .slice l len cap ∧ (l = none → len = 0) ∧ len ≤ cap ∧ NumsAt w l (len * 2) F ∧ ∀ j, j < len * 2 → (Lit.int .i64 (F j)).wf = true := by
  obtain ⟨a0, len0, cap0, rfl⟩ := okWide_slice Try.underlying29 hv
  obtain ⟨fuel, hf⟩ := h
  simp only [Value.cells] at hf
  exact open_pairs hf
set_option maxRecDepth 100000 in
/-- Wheels that came in. -/
theorem open_wheels {r : Reach} {b0 : Nat} {v : Value} {d : DataW H} {p : List MemPlace} (hv : Value.okWide Try.prog w r b0 28 v) (h : DataW.Trod enc Try.prog w base sp held 28 v d p) :
    ∃ (a : Option Addr) (n c : Nat) (F : Nat → Int), v = wheelsV a n c ∧ (a = none → n = 0) ∧ NumsAt w a n F := by
  obtain ⟨cs, rfl, hsz⟩ := okWide_struct Try.underlying28 hv
  obtain ⟨c0, rfl⟩ := array1 (hsz.trans cellsWheels)
  obtain ⟨fuel, hf⟩ := h
  obtain ⟨xs, n, _, hx, _, hlen, hg⟩ := DataW.trod_struct Try.underlying28 hf
  match xs, hlen with
  | [y0], _ =>
    have g0 := hg 0 _ rfl
    simp [Value.cells, cellsInts] at g0
    obtain ⟨a, n, c, F, rfl, h1, _, h3, _⟩ := open_nums g0
    exact ⟨a, n, c, F, rfl, h1, by simpa using h3⟩
set_option maxRecDepth 100000 in
/-- Water that came in. -/
theorem open_water {r : Reach} {b0 : Nat} {v : Value} {d : DataW H} {p : List MemPlace} (hv : Value.okWide Try.prog w r b0 22 v) (h : DataW.Trod enc Try.prog w base sp held 22 v d p) :
    ∃ (l : Option Addr) (len cap : Nat) (F : Nat → Int), v = .slice l len cap ∧ (l = none → len = 0) ∧ NumsAt w l len F := by
  obtain ⟨a0, len0, cap0, rfl⟩ := okWide_slice Try.underlying22 hv
  obtain ⟨fuel, hf⟩ := h
  simp only [Value.cells] at hf
  obtain ⟨l, len, cap, F, h0, h1, _, h3, _⟩ := open_nums hf
  exact ⟨l, len, cap, F, h0, h1, by simpa using h3⟩
set_option maxRecDepth 100000 in
/-- A plan that came in. -/
theorem open_plan {r : Reach} {b0 : Nat} {v : Value} {d : DataW H} {p : List MemPlace} (hv : Value.okWide Try.prog w r b0 26 v) (h : DataW.Trod enc Try.prog w base sp held 26 v d p) :
    ∃ (q : PlanX) (T A S : Nat → Int), v = planV q ∧ PlanAt w q T A S ∧ (∀ j, j < q.an * 2 → A j ≤ 9223372036854775807) ∧ ∀ j, j < q.sn * 4 → S j ≤ 9223372036854775807 := by
  obtain ⟨cs, rfl, hsz⟩ := okWide_struct Try.underlying26 hv
  obtain ⟨c0, c1, c2, c3, c4, c5, c6, rfl⟩ := array7 (hsz.trans cellsPlan)
  obtain ⟨fuel, hf⟩ := h
  obtain ⟨xs, n, _, hx, _, hlen, hg⟩ := DataW.trod_struct Try.underlying26 hf
  match xs, hlen with
  | [y0, y1, y2, y3, y4, y5, y6], _ =>
    have g0 := hg 0 _ rfl
    have g1 := hg 1 _ rfl
    have g2 := hg 2 _ rfl
    have g3 := hg 3 _ rfl
    have g4 := hg 4 _ rfl
    have g5 := hg 5 _ rfl
    have g6 := hg 6 _ rfl
    simp [Value.cells, cellsInt, cellsInts, cellsSales, cellsArrs] at g0 g1 g2 g3 g4 g5 g6
    obtain ⟨fr, rfl, _, _⟩ := read_int g0
    obtain ⟨ta, tn, tc, T, rfl, _, _, hT, _⟩ := open_nums g1
    obtain ⟨sd, rfl, _, _⟩ := read_int g2
    obtain ⟨ck, rfl, _, _⟩ := read_int g3
    obtain ⟨aa, an, ac, A, rfl, _, _, hA, hbA⟩ := open_arrs g4
    obtain ⟨sa, sn, sc, S, rfl, _, _, hS, hbS⟩ := open_sales g5
    obtain ⟨bu, rfl, _, _⟩ := read_int g6
    exact ⟨⟨fr, ta, tn, tc, sd, ck, aa, an, ac, sa, sn, sc, bu⟩, T, A, S, rfl, ⟨by simpa using hT, hA, hS⟩, fun j hj => int_max (hbA j hj), fun j hj => int_max (hbS j hj)⟩
end

set_option maxRecDepth 100000 in
theorem paces_lifted (os : Os) (started : os.Started) (H : Type) (enc : TypeId × Value → H) :
    ReturnsInHanded {} Try.checked os 3 .any (Rows.wheelPacesSpec.pre6 enc Try.prog Try.f3 Rows.wheelPacesRow.domain false) (Rows.wheelPacesSpec.post enc Try.prog Try.f3 false true false false) := by
  refine returnsInHanded_of_change (C := Try.checked) ownKnob_none started (by kernel_rfl) Try.func3
    (ChangeSpec.witness6 (enc := enc) (C := Try.checked) false ⟨#[], #[.agg #[.int .i64 0, .slice none 0 0, .int .i64 0, .int .i64 0, .slice none 0 0, .slice none 0 0, .int .i64 0], .slice none 0 0, .agg #[.slice none 0 0], .slice none 0 0, .int .i64 0], []⟩ 8 (by kernel_rfl) (by kernel_rfl) (by kernel_rfl) (by kernel_rfl)) ?_
  intro W base args ds gs before hval0 hW _ _
  have hval : ∀ (j : Nat) t v, Try.f3.params[j]? = some t → args[j]? = some v → Value.okWide Try.prog W .any base t v := hval0
  have hW' := hW
  obtain ⟨pp, qq, hA0, hV, rfl, hfz, hnd⟩ := hW
  have hA : DataW.TrodAll enc Try.prog W 0 (fun _ => true) true Try.f3.params.toList args.toList ds pp := hA0
  rw [Try.params3] at hA hval
  obtain ⟨v0, vs0, d0, ds0, p0, q0, hargs, rfl, rfl, h0, r0⟩ := trodAll_cons hA
  obtain ⟨v1, vs1, d1, ds1, p1, q1, rfl, rfl, rfl, h1, r1⟩ := trodAll_cons r0
  obtain ⟨v2, vs2, d2, ds2, p2, q2, rfl, rfl, rfl, h2, r2⟩ := trodAll_cons r1
  obtain ⟨v3, vs3, d3, ds3, p3, q3, rfl, rfl, rfl, h3, r3⟩ := trodAll_cons r2
  obtain ⟨v4, vs4, d4, ds4, p4, q4, rfl, rfl, rfl, h4, r4⟩ := trodAll_cons r3
  obtain ⟨rfl, rfl, rfl⟩ := trodAll_nil r4
  obtain rfl : args = #[v0, v1, v2, v3, v4] := by cases args; simp_all
  obtain ⟨rfl, rfl⟩ := trodVars_none hV
  obtain ⟨b, rfl, rfl, rfl, wb⟩ := open_int Try.underlying3 (hval 4 3 v4 rfl rfl) h4
  have h0k := h0
  have h1k := h1
  have h2k := h2
  have h3k := h3
  obtain ⟨p, T, A, S, rfl, hp, hbA, hbS⟩ := open_plan (hval 0 26 v0 rfl rfl) h0
  obtain ⟨wa, m, wc, X, rfl, hwnil, hX⟩ := open_water (hval 1 22 v1 rfl rfl) h1
  obtain ⟨a, n, c, F, rfl, hn, hF⟩ := open_wheels (hval 2 28 v2 rfl rfl) h2
  obtain ⟨la, len, cap, L, rfl, hnl, _, hL, hwf⟩ := open_train (hval 3 29 v3 rfl rfl) h3
  clear hA0 hval0
  simp only [List.append_nil] at hW'
  have hlt : ∀ x ∈ p0 ++ (p1 ++ (p2 ++ p3)), x.block < W.heap.size := fun x hx => by simpa using hW'.lt x hx
  refine (paces_walk p T A S wa m wc X a n c F la len cap L b hbA hbS hwnil hn hnl hwf W hp hX hF hL).mono fun e W' ⟨he, hb⟩ => ?_
  subst he
  refine ⟨_, rfl, _, _, _, [], p0 ++ (p1 ++ (p2 ++ p3)), [], hW', ?_, ?_, rfl, hb.frame _, fun h => by cases h⟩
  · exact trodAll_mk1 (shut_bool Try.underlying4 true)
  · have hs : DataW.Trod enc Try.prog W' 0 (fun b => decide (b < W.heap.size)) true 26 (planV p) d0 p0 := Below.trod laidOut (by kernel_rfl) (of_decide_eq_true (by kernel_rfl)) h0k hb (fun x hx => hlt x (List.mem_append_left _ hx))
    have hs1 : DataW.Trod enc Try.prog W' 0 (fun b => decide (b < W.heap.size)) true 22 (.slice wa m wc) d1 p1 := Below.trod laidOut (by kernel_rfl) (of_decide_eq_true (by kernel_rfl)) h1k hb (fun x hx => hlt x (List.mem_append_right _ (List.mem_append_left _ hx)))
    have hs2 : DataW.Trod enc Try.prog W' 0 (fun b => decide (b < W.heap.size)) true 28 (wheelsV a n c) d2 p2 := Below.trod laidOut (by kernel_rfl) (of_decide_eq_true (by kernel_rfl)) h2k hb (fun x hx => hlt x (List.mem_append_right _ (List.mem_append_right _ (List.mem_append_left _ hx))))
    have hs3 : DataW.Trod enc Try.prog W' 0 (fun b => decide (b < W.heap.size)) true 29 (.slice la len cap) d3 p3 := Below.trod laidOut (by kernel_rfl) (of_decide_eq_true (by kernel_rfl)) h3k hb (fun x hx => hlt x (List.mem_append_right _ (List.mem_append_right _ (List.mem_append_right _ hx))))
    have := trodAll_cons_mk hs (trodAll_cons_mk hs1 (trodAll_cons_mk hs2 (trodAll_cons_mk hs3 (trodAll_cons_mk (shut_int Try.underlying3 wb) trodAll_mk0))))
    simp only [List.append_nil] at this
    exact this

/-- WheelPaces returns true for every input. -/
theorem paces_holds : Rows.WheelPacesSaid :=
  OpenClaim.holds_of_wide 3 Try.f3 rfl rfl rfl rfl rfl rfl rfl ⟨rfl, rfl, rfl, rfl, rfl⟩ rfl rfl rfl rfl rfl (by kernel_rfl) Try.func3 (by kernel_rfl)
    (of_decide_eq_true (by kernel_rfl)) (by unfold Func.isWrapper; first | (rw [if_pos (by decide +kernel)]; kernel_rfl) | (rw [if_neg (by decide +kernel)]; exact ⟨rfl, rfl⟩))
    (fun os started H enc _ => paces_lifted os started H enc)

end Go.Proofs.Ytacdbjandcdejaa
