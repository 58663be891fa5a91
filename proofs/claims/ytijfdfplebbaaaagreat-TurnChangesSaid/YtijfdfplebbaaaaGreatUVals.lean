/-
  Slices whose cells are any values; notes as such slices.
-/
import Derived.Test.YtijfdfplebbaaaaGreatUErr
import Derived.Test.YtijfdfplebbaaaaGreatQApp
namespace Go.Proofs.YtijfdfplebbaaaaGreat
open Go.RowKit

/-- Each value fills one cell. -/
def One (F : Nat → Value) : Prop := ∀ q, (F q).oneCell' = true
def joinV (F : Nat → Value) (n : Nat) (G : Nat → Value) : Nat → Value := fun q => if q < n then F q else G (q - n)
def ValsAt (w : World) (a : Option Addr) (len : Nat) (F : Nat → Value) : Prop :=
  ∀ j, j < len → ∃ b off, a = some ⟨b, off, none⟩ ∧ w.cell? ⟨b, off + j, none⟩ = some ((F (j)))
theorem ValsAt.below {w w' : World} {a : Option Addr} {len : Nat} {F : Nat → Value} (h : ValsAt w a len F) (hb : Below w.heap.size w w') : ValsAt w' a len F := fun j hj => by
  obtain ⟨b, off, h0, h1⟩ := h j hj
  exact ⟨b, off, h0, below_cell hb h1⟩
theorem ValsAt.alloc {w : World} {a : Option Addr} {len : Nat} {F : Nat → Value} (h : ValsAt w a len F) (o : Obj) : ValsAt (w.alloc o) a len F := h.below (below_new w o)
theorem ValsAt.at {w : World} {b off len : Nat} {F : Nat → Value} (h : ValsAt w (some ⟨b, off, none⟩) len F) {j : Nat} (hj : j < len) : w.cell? ⟨b, off + j, none⟩ = some ((F (j))) := by
  obtain ⟨b', off', h0, h1⟩ := h j hj
  cases h0
  exact h1
def valsCells (len : Nat) (F : Nat → Value) : List Value := (List.range len).map fun j => (F (j))
theorem valsCells_length (len : Nat) (F : Nat → Value) : (valsCells len F).length = len := by simp [valsCells]
theorem valsCells_at {len : Nat} {F : Nat → Value} {j : Nat} {v : Value} (h : (valsCells len F)[j]? = some v) : j < len ∧ v = (F (j)) := by
  unfold valsCells at h
  rw [List.getElem?_map] at h
  by_cases hj : j < len
  · rw [List.getElem?_range hj] at h
    simp at h
    exact ⟨hj, h.symm⟩
  · rw [List.getElem?_eq_none (by simpa using hj)] at h
    cases h
theorem valsCells_get {len : Nat} {F : Nat → Value} {j : Nat} (h : j < len) : (valsCells len F)[j]? = some ((F (j))) := by
  unfold valsCells
  rw [List.getElem?_map, List.getElem?_range h]
  rfl
theorem valsCells_hold {w : World} {b off len : Nat} {F : Nat → Value} (h : ValsAt w (some ⟨b, off, none⟩) len F) {j : Nat} {v : Value} (hj : (valsCells len F)[j]? = some v) : w.cell? ((⟨b, off, none⟩ : Addr).add j) = some v := by
  obtain ⟨h1, rfl⟩ := valsCells_at hj
  rw [Go.WideShapes.add_plain]
  exact h.at h1
def OwnVals (w : World) (base : Nat) (t : TypeId) (k : Nat) (a : Option Addr) (len cap : Nat) (F : Nat → Value) : Prop := w.ownsRow base t k (.slice a len cap) len (valsCells (len * k) F)
theorem OwnVals.nums {w : World} {base : Nat} {t : TypeId} {k : Nat} {a : Option Addr} {len cap : Nat} {F : Nat → Value} (h : OwnVals w base t k a len cap F) : ValsAt w a (len * k) F := by
  obtain ⟨_, ⟨_, hn⟩ | ⟨g, cap', cur, he, _, hg, _, _, _, ht⟩⟩ := h
  · subst hn
    intro j hj
    omega
  · simp only [Value.slice.injEq] at he
    obtain ⟨rfl, _, rfl⟩ := he
    refine fun j hj => ⟨g, 0, rfl, ?_⟩
    have h1 := valsCells_get (F := F) hj
    rw [← ht, List.getElem?_take_of_lt (by omega)] at h1
    unfold World.cell?
    simp only [hg]
    simpa using h1
theorem OwnVals.below {w w' : World} {base : Nat} {t : TypeId} {k : Nat} {a : Option Addr} {len cap : Nat} {F : Nat → Value} (h : OwnVals w base t k a len cap F) (hb : Below w.heap.size w w') : OwnVals w' base t k a len cap F := by
  obtain ⟨h0, h1 | ⟨g, cap', cur, he, hbase, hg, h2⟩⟩ := h
  · exact ⟨h0, .inl h1⟩
  · exact ⟨h0, .inr ⟨g, cap', cur, he, hbase, heap_lft hg hb, h2⟩⟩
theorem OwnVals.base {w : World} {base base' : Nat} {t : TypeId} {k : Nat} {a : Option Addr} {len cap : Nat} {F : Nat → Value} (h : OwnVals w base t k a len cap F) (hb : base' ≤ base) : OwnVals w base' t k a len cap F := by
  obtain ⟨h0, h1 | ⟨g, cap', cur, he, hbase, h2⟩⟩ := h
  · exact ⟨h0, .inl h1⟩
  · exact ⟨h0, .inr ⟨g, cap', cur, he, by omega, h2⟩⟩
theorem ownv_empty (w : World) (t : TypeId) (k : Nat) {b base : Nat} (hb : b = w.heap.size) (hbase : base ≤ b) (F : Nat → Value) : OwnVals (w.alloc (.cells #[] t)) base t k (some ⟨b, 0, none⟩) 0 0 F := by
  subst hb
  refine ⟨by simp [valsCells], .inr ⟨w.heap.size, 0, #[], rfl, hbase, heap_top _ _ rfl, by simp, by unfold maxLen; omega, by simp, by simp [valsCells]⟩⟩
theorem ownv_nil (w : World) (t : TypeId) (k base : Nat) (F : Nat → Value) : OwnVals w base t k none 0 0 F := ⟨by simp [valsCells], .inl ⟨rfl, rfl⟩⟩
theorem OwnVals.set {w : World} {base : Nat} {t : TypeId} {k : Nat} {a : Option Addr} {len cap : Nat} {F : Nat → Value} (h : OwnVals w base t k a len cap F) {p : Addr} (hp : p.block < base) (u : Value) : OwnVals (w.setCell p u) base t k a len cap F := by
  obtain ⟨h0, h1 | ⟨g, cap', cur, he, hbase, hg, h2⟩⟩ := h
  · exact ⟨h0, .inl h1⟩
  · exact ⟨h0, .inr ⟨g, cap', cur, he, hbase, (Below.heap_setCell _ _ _ _ (by omega)).trans hg, h2⟩⟩
theorem OwnVals.lt {w : World} {base : Nat} {t : TypeId} {k : Nat} {a : Option Addr} {len cap : Nat} {F : Nat → Value} (h : OwnVals w base t k a len cap F) (x : Addr) (hx : a = some x) : base ≤ x.block ∧ x.block < w.heap.size := by
  obtain ⟨_, ⟨h1, _⟩ | ⟨g, _, _, he, hb, hg, _⟩⟩ := h
  · subst hx; cases h1
  · subst hx
    simp only [Value.slice.injEq, Option.some.injEq] at he
    obtain ⟨rfl, _⟩ := he
    exact ⟨hb, (Array.getElem?_eq_some_iff.1 hg).1⟩
theorem OwnVals.kept {w w' : World} {base : Nat} {t : TypeId} {k : Nat} {a : Option Addr} {len cap : Nat} {F : Nat → Value} (h : OwnVals w base t k a len cap F) (hk : ∀ x, a = some x → w'.heap[x.block]? = w.heap[x.block]?) : OwnVals w' base t k a len cap F := by
  obtain ⟨h0, h1 | ⟨g, cap', cur, he, hbase, hg, h2⟩⟩ := h
  · exact ⟨h0, .inl h1⟩
  · simp only [Value.slice.injEq] at he
    obtain ⟨rfl, _, rfl⟩ := he
    exact ⟨h0, .inr ⟨g, cap, cur, rfl, hbase, (hk _ rfl).trans hg, h2⟩⟩
theorem OwnVals.ne {w : World} {base : Nat} {t : TypeId} {k : Nat} {a : Option Addr} {len cap : Nat} {F : Nat → Value} (h : OwnVals w base t k a len cap F) {i : Nat} {arr : Array Value} {t' : TypeId} (hi : w.heap[i]? = some (.cells arr t')) (ht : t ≠ t') (x : Addr) (hx : a = some x) : x.block ≠ i := by
  obtain ⟨_, ⟨h1, _⟩ | ⟨g, _, _, he, hb, hg, _⟩⟩ := h
  · subst hx; cases h1
  · subst hx
    simp only [Value.slice.injEq, Option.some.injEq] at he
    obtain ⟨rfl, _⟩ := he
    rintro rfl
    dsimp only at hi
    rw [hg] at hi
    simp only [Option.some.injEq, Obj.cells.injEq] at hi
    exact ht hi.2.1
theorem valsCells_congr {n : Nat} {F G : Nat → Value} (h : ∀ q, q < n → F q = G q) : valsCells n F = valsCells n G := by
  unfold valsCells
  exact List.map_congr_left fun q hq => by rw [h q (List.mem_range.1 hq)]
theorem valsCells_append (n m : Nat) (F G : Nat → Value) : valsCells n F ++ valsCells m G = valsCells (n + m) (joinV F n G) := by
  apply List.ext_getElem?
  intro i
  by_cases h1 : i < n
  · rw [List.getElem?_append_left (by rw [valsCells_length]; exact h1), valsCells_get h1, valsCells_get (by omega)]
    simp [joinV, h1]
  · rw [List.getElem?_append_right (by rw [valsCells_length]; omega), valsCells_length]
    by_cases h2 : i < n + m
    · rw [valsCells_get (by omega), valsCells_get h2]
      simp [joinV, h1]
    · rw [List.getElem?_eq_none (by rw [valsCells_length]; omega), List.getElem?_eq_none (by rw [valsCells_length]; omega)]
theorem OwnVals.own_block {w : World} {base : Nat} {t : TypeId} {k : Nat} {a : Option Addr} {len cap : Nat} {F : Nat → Value} (h : OwnVals w base t k a len cap F) : (a = none ∧ len = 0 ∧ cap = 0) ∨ ∃ g, a = some ⟨g, 0, none⟩ ∧ base ≤ g := by
  obtain ⟨_, ⟨h1, h2⟩ | ⟨g, _, _, he, hb, _⟩⟩ := h
  · simp only [Value.slice.injEq] at h1
    exact .inl ⟨h1.1, h2, h1.2.2⟩
  · simp only [Value.slice.injEq] at he
    exact .inr ⟨g, he.1, hb⟩
theorem OwnVals.le_cap {w : World} {base : Nat} {t : TypeId} {k : Nat} {a : Option Addr} {len cap : Nat} {F : Nat → Value} (h : OwnVals w base t k a len cap F) : len ≤ cap := by
  obtain ⟨_, ⟨h1, h2⟩ | ⟨g, _, _, he, hb, _, hlc, _⟩⟩ := h
  · omega
  · simp only [Value.slice.injEq] at he
    omega
theorem OwnVals.congr {w : World} {base : Nat} {t : TypeId} {k : Nat} {a : Option Addr} {len cap : Nat} {F G : Nat → Value} (h : OwnVals w base t k a len cap F) (hFG : ∀ q, q < len * k → F q = G q) : OwnVals w base t k a len cap G := by
  unfold OwnVals at *
  rw [← valsCells_congr hFG]
  exact h
theorem app_vals (w : World) (base : Nat) (T ST ty : TypeId) (k bytes : Nat) (i : TypeInfo) (z : Value) (hu : Tryz.prog.underlying ST = some (.slice T)) (hi : Tryz.prog.info? T = some i) (hz : i.zero = some z) (hz1 : i.size = k) (hz2 : i.bytes = bytes) (hzs : z.cells.size = k) (hk : 0 < k) (hb : bytes ≤ 64)
    {a : Option Addr} {len cap : Nat} {F : Nat → Value} (hown : OwnVals w base T k a len cap F) (src : Option Addr) (m c : Nat) (G : Nat → Value) (hone : One G) (hs : ValsAt w src (m * k) G) (hnil : src = none → m = 0) (hl : len ≤ 100) (hm : m ≤ 100) (hbase : base ≤ w.heap.size) :
    ∃ a' cap' w', (Builtin.append_ #[ST, ST] ty #[.slice a len cap, .slice src m c]).run Tryz.prog w = .ok (.slice a' (len + m) cap') w' ∧ OwnVals w' base T k a' (len + m) cap' (joinV F (len * k) G) ∧ Alone a w w' ∧ Below base w w' ∧ (∀ x', a' = some x' → a = some x' ∨ w.heap.size ≤ x'.block) := by
  cases src with
  | none =>
    obtain rfl := hnil rfl
    refine ⟨a, cap, w, ?_, OwnVals.congr hown (fun q hq => by rw [joinV, if_pos (by simpa using hq)]), fun _ _ _ => rfl, Below.refl _ _, fun x' h => .inl h⟩
    exact run_append_nothing w ST ST ty T i hu hi a len cap hown.le_cap _ (Src.ofNil w hu c)
  | some ad =>
    obtain ⟨v', w', hr, h2, h3, h4, h5⟩ := run_append_own_at (P := Tryz.prog) (w := w) base ST ty T i z k bytes hu hi hz hz1 hz2 hzs hk (.slice a len cap) len (valsCells (len * k) F) hown ad m c (valsCells (m * k) G) (valsCells_length _ _)
      (fun j u hj => by
        obtain ⟨h1, rfl⟩ := valsCells_at hj
        obtain ⟨b, off, h6, h7⟩ := hs j h1
        cases h6
        rw [Go.WideShapes.add_plain]
        exact h7)
      (fun u hu => by
        obtain ⟨j, hj⟩ := List.getElem?_of_mem hu
        obtain ⟨_, rfl⟩ := valsCells_at hj
        exact hone _) (by unfold maxLen; omega) (Nat.le_trans (Nat.mul_le_mul (show len + m ≤ 200 by omega) hb) (by decide)) hbase
    have h2' : w'.ownsRow base T k v' (len + m) (valsCells ((len + m) * k) (joinV F (len * k) G)) := by
      rw [valsCells_append] at h2
      rw [Nat.add_mul]
      exact h2
    have hal : Alone a w w' := fun i hi hne => h3.block i hi (fun e => by
      cases a with
      | none => simp [Value.ownBlock] at e
      | some x => simp [Value.ownBlock] at e; exact hne x rfl e)
    have hbel : Below base w w' := (Below.refl _ _).grown h3 hbase (fun g hg => by
      obtain ⟨h1, _⟩ | ⟨g', h1, h6⟩ := hown.own_block
      · rw [h1] at hg; simp [Value.ownBlock] at hg
      · rw [h1] at hg; simp [Value.ownBlock] at hg; omega)
    have hsh : ∃ a' cap', v' = .slice a' (len + m) cap' := by
      obtain ⟨_, ⟨h6, h7⟩ | ⟨g, c', cur, h6, _⟩⟩ := h2'
      · exact ⟨none, 0, by rw [h6, h7]⟩
      · exact ⟨_, _, h6⟩
    obtain ⟨a', cap', rfl⟩ := hsh
    refine ⟨a', cap', w', hr, h2', hal, hbel, fun x' hx => ?_⟩
    subst hx
    obtain ⟨h8, _⟩ | ⟨g, h8, _⟩ := OwnVals.own_block (w := w') (F := joinV F (len * k) G) h2'
    · cases h8
    · cases h8
      rcases h5 with h5 | h5
      · left
        obtain ⟨h1, _⟩ | ⟨g', h1, _⟩ := hown.own_block
        · rw [h1] at h5; simp [Value.ownBlock] at h5
        · rw [h1] at h5 ⊢
          simp [Value.ownBlock] at h5
          rw [h5]
      · right
        simp [Value.ownBlock] at h5
        simp [h5]
theorem ValsAt.head {w : World} {a : Option Addr} {n k s : Nat} {F : Nat → Value} (h : ValsAt w a (n * s) F) (hk : k ≤ n) : ValsAt w a (k * s) F := fun j hj => h j (Nat.lt_of_lt_of_le hj (Nat.mul_le_mul_right _ hk))
theorem ValsAt.tail {w : World} {a : Option Addr} {n c k s : Nat} {F : Nat → Value} (h : ValsAt w a (n * s) F) (hk : k ≤ n) (hc : n ≤ c) : ValsAt w (tailA a c k s) ((n - k) * s) (fun q => F (k * s + q)) := fun j hj => by
  have h1 : k < n := by
    rcases Nat.lt_or_ge k n with g | g
    · exact g
    · rw [show n - k = 0 by omega] at hj; omega
  have h2 : k * s + j < n * s := by
    have e : n * s = k * s + (n - k) * s := by rw [← Nat.add_mul]; congr 1; omega
    omega
  obtain ⟨b, off, rfl, h4⟩ := h (k * s + j) h2
  refine ⟨b, off + k * s, ?_, by rw [Nat.add_assoc]; exact h4⟩
  unfold tailA
  rw [if_neg (by omega)]
  simp [Go.WideShapes.add_plain]

/-- A note's cells. -/
def noteF (N : Nat → NoteX) : Nat → Value := fun q => match q % 7 with
  | 0 => .int .i64 (N (q / 7)).n
  | 1 => .int .i64 (N (q / 7)).m1
  | 2 => .int .i64 (N (q / 7)).p1
  | 3 => .bool (N (q / 7)).b1
  | 4 => .int .i64 (N (q / 7)).m2
  | 5 => .int .i64 (N (q / 7)).p2
  | _ => .bool (N (q / 7)).b2
theorem noteF_one (N : Nat → NoteX) : One (noteF N) := fun q => by
  unfold noteF
  split <;> rfl
theorem joinV_one {F G : Nat → Value} (n : Nat) (h : One F) (g : One G) : One (joinV F n G) := fun q => by
  unfold joinV
  split
  · exact h _
  · exact g _
theorem noteF_0 (N : Nat → NoteX) (j : Nat) : noteF N (j * 7 + 0) = .int .i64 (N j).n := by
  have h1 : (j * 7 + 0) % 7 = 0 := by omega
  have h2 : (j * 7 + 0) / 7 = j := by omega
  simp only [noteF, h1, h2]
theorem noteF_1 (N : Nat → NoteX) (j : Nat) : noteF N (j * 7 + 1) = .int .i64 (N j).m1 := by
  have h1 : (j * 7 + 1) % 7 = 1 := by omega
  have h2 : (j * 7 + 1) / 7 = j := by omega
  simp only [noteF, h1, h2]
theorem noteF_2 (N : Nat → NoteX) (j : Nat) : noteF N (j * 7 + 2) = .int .i64 (N j).p1 := by
  have h1 : (j * 7 + 2) % 7 = 2 := by omega
  have h2 : (j * 7 + 2) / 7 = j := by omega
  simp only [noteF, h1, h2]
theorem noteF_3 (N : Nat → NoteX) (j : Nat) : noteF N (j * 7 + 3) = .bool (N j).b1 := by
  have h1 : (j * 7 + 3) % 7 = 3 := by omega
  have h2 : (j * 7 + 3) / 7 = j := by omega
  simp only [noteF, h1, h2]
theorem noteF_4 (N : Nat → NoteX) (j : Nat) : noteF N (j * 7 + 4) = .int .i64 (N j).m2 := by
  have h1 : (j * 7 + 4) % 7 = 4 := by omega
  have h2 : (j * 7 + 4) / 7 = j := by omega
  simp only [noteF, h1, h2]
theorem noteF_5 (N : Nat → NoteX) (j : Nat) : noteF N (j * 7 + 5) = .int .i64 (N j).p2 := by
  have h1 : (j * 7 + 5) % 7 = 5 := by omega
  have h2 : (j * 7 + 5) / 7 = j := by omega
  simp only [noteF, h1, h2]
theorem noteF_6 (N : Nat → NoteX) (j : Nat) : noteF N (j * 7 + 6) = .bool (N j).b2 := by
  have h1 : (j * 7 + 6) % 7 = 6 := by omega
  have h2 : (j * 7 + 6) / 7 = j := by omega
  simp only [noteF, h1, h2]
theorem noteF_split (N : Nat → NoteX) (q : Nat) : noteF N q = noteF (fun _ => N (q / 7)) (q % 7) := by
  have h1 : q % 7 % 7 = q % 7 := by omega
  simp only [noteF, h1]
theorem ValsAt.notes {w : World} {a : Option Addr} {len : Nat} {N : Nat → NoteX} (h : ValsAt w a (len * 7) (noteF N)) : NotesAt w a len N := fun j hj => by
  obtain ⟨b, off, rfl, _⟩ := h (j * 7) (by omega)
  refine ⟨b, off, rfl, ?_⟩
  have g : ∀ i, i < 7 → w.cell? ⟨b, off + j * 7 + i, none⟩ = some (noteF N (j * 7 + i)) := fun i hi => by
    have := h.at (show j * 7 + i < len * 7 by omega)
    rw [← Nat.add_assoc] at this
    exact this
  have g0 := g 0 (by omega)
  rw [Nat.add_zero, Nat.add_zero, show noteF N (j * 7) = .int .i64 (N j).n from noteF_0 N j] at g0
  have g1 := g 1 (by omega)
  have g2 := g 2 (by omega)
  have g3 := g 3 (by omega)
  have g4 := g 4 (by omega)
  have g5 := g 5 (by omega)
  have g6 := g 6 (by omega)
  rw [noteF_1] at g1
  rw [noteF_2] at g2
  rw [noteF_3] at g3
  rw [noteF_4] at g4
  rw [noteF_5] at g5
  rw [noteF_6] at g6
  exact ⟨g0, g1, g2, g3, g4, g5, g6⟩
theorem NotesAt.vals {w : World} {a : Option Addr} {len : Nat} {N : Nat → NoteX} (h : NotesAt w a len N) : ValsAt w a (len * 7) (noteF N) := fun q hq => by
  obtain ⟨b, off, rfl, c⟩ := h (q / 7) (by omega)
  refine ⟨b, off, rfl, ?_⟩
  have hq7 : q = q / 7 * 7 + q % 7 := by omega
  obtain ⟨j, hj⟩ : ∃ j, q / 7 = j := ⟨_, rfl⟩
  obtain ⟨i, hi⟩ : ∃ i, q % 7 = i := ⟨_, rfl⟩
  have hi7 : i < 7 := by omega
  rw [hj] at c hq7
  rw [hi] at hq7
  subst hq7
  have h7 : i = 0 ∨ i = 1 ∨ i = 2 ∨ i = 3 ∨ i = 4 ∨ i = 5 ∨ i = 6 := by omega
  rw [← Nat.add_assoc]
  rcases h7 with rfl | rfl | rfl | rfl | rfl | rfl | rfl
  · rw [noteF_0]; exact c.c0
  · rw [noteF_1]; exact c.c1
  · rw [noteF_2]; exact c.c2
  · rw [noteF_3]; exact c.c3
  · rw [noteF_4]; exact c.c4
  · rw [noteF_5]; exact c.c5
  · rw [noteF_6]; exact c.c6

end Go.Proofs.YtijfdfplebbaaaaGreat
