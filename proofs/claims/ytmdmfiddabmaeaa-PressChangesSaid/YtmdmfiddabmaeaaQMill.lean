/-
  A press at work: the box of a mill, whose numbers don't matter.
-/
import Derived.Test.YtmdmfiddabmaeaaQWeigh
import Derived.Laws.CopyOwn
namespace Go.Proofs.Ytmdmfiddabmaeaa
open Go.RowKit

theorem millSize : (Try.prog.info? 64).map (·.size) = some 152 := by kernel_rfl
/-- The cells of a press at work. -/
structure Mill (a : Option Addr) (n c : Nat) (b : Option Addr) (m d : Nat) (cs : Array Value) : Prop where
  size : cs.size = 152
  p0 : cs[0]? = some (.slice a n c)
  p1 : cs[1]? = some (.slice b m d)
  ints : ∀ j, 2 ≤ j → j < 152 → ∃ z, cs[j]? = some (.int .i64 z)
theorem Mill.one {a : Option Addr} {n c : Nat} {b : Option Addr} {m d : Nat} {cs : Array Value} (h : Mill a n c b m d cs) : cs.all (·.oneCell') = true := by
  rw [Array.all_eq_true]
  intro j hj
  have hj' : j < 152 := by rw [← h.size]; exact hj
  by_cases h0 : j = 0
  · subst h0
    have := h.p0
    rw [Array.getElem?_eq_getElem hj] at this
    rw [Option.some.inj this]; rfl
  · by_cases h1 : j = 1
    · subst h1
      have := h.p1
      rw [Array.getElem?_eq_getElem hj] at this
      rw [Option.some.inj this]; rfl
    · obtain ⟨z, hz⟩ := h.ints j (by omega) hj'
      rw [Array.getElem?_eq_getElem hj] at hz
      rw [Option.some.inj hz]; rfl
theorem Mill.set {a : Option Addr} {n c : Nat} {b : Option Addr} {m d : Nat} {cs : Array Value} (h : Mill a n c b m d cs) {i : Nat} (hi : 2 ≤ i) (z : Int) : Mill a n c b m d (cs.setIfInBounds i (.int .i64 z)) := by
  refine ⟨by simpa using h.size, ?_, ?_, fun j h2 hj => ?_⟩
  · rw [Array.getElem?_setIfInBounds_ne (by omega)]; exact h.p0
  · rw [Array.getElem?_setIfInBounds_ne (by omega)]; exact h.p1
  · by_cases e : i = j
    · subst e
      exact ⟨z, by rw [Array.getElem?_setIfInBounds_self_of_lt (by rw [h.size]; exact hj)]⟩
    · rw [Array.getElem?_setIfInBounds_ne e]; exact h.ints j h2 hj
/-- A press at work without any weights. -/
def millZ (a : Option Addr) (n c : Nat) (b : Option Addr) (m d : Nat) : Array Value := #[.slice a n c, .slice b m d] ++ Array.replicate 150 (.int .i64 0)
theorem mill_zero (a : Option Addr) (n c : Nat) (b : Option Addr) (m d : Nat) : Mill a n c b m d (millZ a n c b m d) := by
  refine ⟨by simp [millZ], by simp [millZ], by simp [millZ], fun j h2 hj => ⟨0, ?_⟩⟩
  unfold millZ
  rw [Array.getElem?_append_right (by simpa using h2)]
  simp only [List.size_toArray, List.length_cons, List.length_nil]
  rw [Array.getElem?_replicate, if_pos (by omega)]
theorem mill_zeroCells : Try.zeroCells64 = millZ none 0 0 none 0 0 := by kernel_rfl
theorem mill_built (a : Option Addr) (n c : Nat) (b : Option Addr) (m d : Nat) : Try.prog.built 64 [(0, pressV a n c b m d)] = some (millZ a n c b m d) := by kernel_rfl
theorem mill_built0 : Try.prog.built 64 [] = some (millZ none 0 0 none 0 0) := by kernel_rfl
theorem mill_first (a : Option Addr) (n c : Nat) (b : Option Addr) (m d : Nat) : Mill a n c b m d ((Try.zeroCells64.setIfInBounds 0 (.slice a n c)).setIfInBounds 1 (.slice b m d)) := by
  rw [mill_zeroCells]
  have h := mill_zero none 0 0 none 0 0
  refine ⟨by simpa using h.size, ?_, ?_, fun j h2 hj => ?_⟩
  · rw [Array.getElem?_setIfInBounds_ne (by decide), Array.getElem?_setIfInBounds_self_of_lt (by rw [h.size]; decide)]
  · rw [Array.getElem?_setIfInBounds_self_of_lt (by simp [h.size])]
  · rw [Array.getElem?_setIfInBounds_ne (by omega), Array.getElem?_setIfInBounds_ne (by omega)]; exact h.ints j h2 hj
abbrev millB (cs : Array Value) : Obj := .cells cs 64
/-- The box of a press at work. -/
def MillAt (w : World) (B : Nat) (a : Option Addr) (n c : Nat) (b : Option Addr) (m d : Nat) : Prop := ∃ cs, w.heap[B]? = some (millB cs) ∧ Mill a n c b m d cs
theorem MillAt.lift {w w' : World} {B : Nat} {a : Option Addr} {n c : Nat} {b : Option Addr} {m d : Nat} (h : MillAt w B a n c b m d) (hb : Below w.heap.size w w') : MillAt w' B a n c b m d := by
  obtain ⟨cs, h1, h2⟩ := h
  exact ⟨cs, heap_lft h1 hb, h2⟩
theorem MillAt.kept {w w' : World} {B : Nat} {a : Option Addr} {n c : Nat} {b : Option Addr} {m d : Nat} (h : MillAt w B a n c b m d) (hk : w'.heap[B]? = w.heap[B]?) : MillAt w' B a n c b m d := by
  obtain ⟨cs, h1, h2⟩ := h
  exact ⟨cs, hk.trans h1, h2⟩
theorem MillAt.set {w : World} {B : Nat} {a : Option Addr} {n c : Nat} {b : Option Addr} {m d : Nat} (h : MillAt w B a n c b m d) {i : Nat} (hi : 2 ≤ i) (z : Int) : MillAt (w.setCell ⟨B, i, none⟩ (.int .i64 z)) B a n c b m d := by
  obtain ⟨cs, h1, h2⟩ := h
  exact ⟨_, heap_set h1 i _, h2.set hi z⟩
theorem MillAt.int {w : World} {B : Nat} {a : Option Addr} {n c : Nat} {b : Option Addr} {m d : Nat} (h : MillAt w B a n c b m d) {i : Nat} (hi : 2 ≤ i) (hj : i < 152) : ∃ z, w.cell? ⟨B, i, none⟩ = some (.int .i64 z) := by
  obtain ⟨cs, h1, h2⟩ := h
  obtain ⟨z, hz⟩ := h2.ints i hi hj
  exact ⟨z, heap_cell h1 hz⟩
theorem MillAt.frozen {w : World} {B : Nat} {a : Option Addr} {n c : Nat} {b : Option Addr} {m d : Nat} (h : MillAt w B a n c b m d) (i : Nat) : w.frozen? ⟨B, i, none⟩ = false := by
  obtain ⟨cs, h1, h2⟩ := h
  exact heap_frozen h1 i
theorem setCell_other {w : World} {k : Nat} {p : Addr} {v : Value} (h : k ≠ p.block) : (w.setCell p v).heap[k]? = w.heap[k]? := Below.heap_setCell _ _ _ _ h

section
variable {ops : Array Oper} {rest : List Oper} {o : Oper} {a : Act} {w : World} {Q : Exit → Act → World → Prop}
theorem wpList_mill_load (hg : o.guard = none) (x : Operand) (hop : o.op = Op.load 64 x) (B : Nat) (cs : Array Value) (hx : a.eval x = .pointer (some ⟨B, 0, none⟩)) (hM : w.heap[B]? = some (millB cs)) (hs : cs.size = 152)
    (hK : wpList Try.prog ops Q rest (a.put o.dst (.agg cs)) w) : wpList Try.prog ops Q (o :: rest) a w :=
  wpList_load_row hg 64 x hop B hx 64 cs (0, 0) _ hM Try.underlying64 rfl (by rw [millSize, hs]) hK
theorem wpList_mill_store (hg : o.guard = none) (x y : Operand) (hop : o.op = Op.store 64 x y) (B : Nat) (cs old : Array Value) (hx : a.eval x = .pointer (some ⟨B, 0, none⟩)) (hy : a.eval y = .agg cs) (hM : w.heap[B]? = some (millB old)) (ho : old.size = 152) (hs : cs.size = 152) (h1 : cs.all (·.oneCell') = true)
    (hK : ∀ w', w'.heap[B]? = some (millB cs) → (∀ k, k ≠ B → w'.heap[k]? = w.heap[k]?) → (∀ k w0, k ≤ B → Below k w0 w → Below k w0 w') → wpList Try.prog ops Q rest (a.put o.dst undef) w') : wpList Try.prog ops Q (o :: rest) a w :=
  wpList_store_row hg 64 x y hop B cs hx hy 64 old hM (by rw [millSize, hs]) (by rw [ho, hs]) h1 (hK _ (setRow_heap w B old cs _ _ hM) (fun k hk => setRow_other w B k cs hk) (fun k w0 hk hb => below_setRow hb hk cs))
theorem wpList_mill_build (hg : o.guard = none) (parts : Array (Nat × Operand)) (hop : o.op = Op.build 64 parts) (cs : Array Value) (hb : Try.prog.built 64 (parts.map fun (i, x) => (i, a.eval x)).toList = some cs)
    (hK : wpList Try.prog ops Q rest (a.put o.dst (.agg cs)) w) : wpList Try.prog ops Q (o :: rest) a w :=
  wpList_build hg 64 parts hop (by rw [hb]; rfl) (by rw [hb]; exact hK)
end
theorem results_mill2 {fn : Func} {p q : Tmp} (h : fn.results = #[.cell p 64, .tmp q]) (tmps : Array Value) (w : World) (g : Nat) (cs : Array Value) (v : Value)
    (hp : tmps.getD p undef = .pointer (some ⟨g, 0, none⟩)) (hq : tmps.getD q undef = v) (hg : w.heap[g]? = some (millB cs)) (hs : cs.size = 152) :
    (results fn tmps).run Try.prog w = .ok (.tuple #[.agg cs, v]) w := by
  have hr := run_loadVar_row (P := Try.prog) w g 64 64 cs (0, 0) _ hg Try.underlying64 rfl (by rw [millSize, hs])
  have hp' : tmps[p]?.getD undef = .pointer (some ⟨g, 0, none⟩) := by simpa using hp
  have hq' : tmps[q]?.getD undef = v := by simpa using hq
  simp [results, h, hp', hq', asAddr, hr]
theorem results_mill3 {fn : Func} {p q q2 : Tmp} (h : fn.results = #[.cell p 64, .tmp q, .tmp q2]) (tmps : Array Value) (w : World) (g : Nat) (cs : Array Value) (v v2 : Value)
    (hp : tmps.getD p undef = .pointer (some ⟨g, 0, none⟩)) (hq : tmps.getD q undef = v) (hq2 : tmps.getD q2 undef = v2) (hg : w.heap[g]? = some (millB cs)) (hs : cs.size = 152) :
    (results fn tmps).run Try.prog w = .ok (.tuple #[.agg cs, v, v2]) w := by
  have hr := run_loadVar_row (P := Try.prog) w g 64 64 cs (0, 0) _ hg Try.underlying64 rfl (by rw [millSize, hs])
  have hp' : tmps[p]?.getD undef = .pointer (some ⟨g, 0, none⟩) := by simpa using hp
  have hq' : tmps[q]?.getD undef = v := by simpa using hq
  have hq2' : tmps[q2]?.getD undef = v2 := by simpa using hq2
  simp [results, h, hp', hq', hq2', asAddr, hr]
end Go.Proofs.Ytmdmfiddabmaeaa
