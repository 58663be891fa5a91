/-
  Common ground for the walks over package round: what a call leaves of memory, watches as values; its small functions.
-/
import Derived.Test.YtiiekecohmaipaaProg
import Derived.WalkKit
import Derived.OwnWalkIn
import Derived.Maps.Own
import Derived.Lib.Hide
import Derived.Deep.Quiet
import Derived.BigQuiet
import Derived.Deep.RegionWith
import Derived.Outline
import Derived.Laws.EntriesVeiled
import Derived.WalkLawsBesides
import Derived.RegionTactic
import Derived.ArgAppend
import Derived.Lib.SliceRun
import Derived.Deep.CutRange
namespace Go.Proofs.Ytiiekecohmaipaa
open Go.RowKit

theorem ret_int {q : IntKind} {a b : Int} (h : a = b) : Ending.returned (.int q a) = .returned (.int q b) := by rw [h]
theorem ret_bool {a b : Bool} (h : a = b) : Ending.returned (.bool a) = .returned (.bool b) := by rw [h]
theorem cell_up {w : World} {a : Addr} {v : Value} (h : w.cell? a = some v) (o : Obj) : (w.alloc o).cell? a = some v := (World.cell?_alloc_lt _ _ _ (World.block_lt_of_cell? w _ h)).trans h
theorem below_cell {w w' : World} (h : Below w.heap.size w w') {a : Addr} {v : Value} (hc : w.cell? a = some v) : w'.cell? a = some v := (h.cell (World.block_lt_of_cell? w a hc)).trans hc
theorem heap_cell {V : World} {k j : Nat} {arr : Array Value} {t : TypeId} {v : Value} (h : V.heap[k]? = some (.cells arr t)) (hv : arr[j]? = some v) : V.cell? ⟨k, j, none⟩ = some v := by
  unfold World.cell?
  simp only [h]
  exact hv
theorem heap_frozen {W : World} {g : Nat} {arr : Array Value} {t : TypeId} (h : W.heap[g]? = some (.cells arr t)) (i : Nat) : W.frozen? ⟨g, i, none⟩ = false := by
  simp [World.frozen?, h]
theorem heap_top (w : World) (o : Obj) {b : Nat} (hb : b = w.heap.size) : (w.alloc o).heap[b]? = some o := by subst hb; exact (MapKept.heap_alloc w o).1
theorem heap_up {w : World} {b : Nat} {o : Obj} (h : w.heap[b]? = some o) (o' : Obj) : (w.alloc o').heap[b]? = some o := (Below.heap_alloc _ _ _ (Array.getElem?_eq_some_iff.1 h).1).trans h
theorem heap_lft {w w' : World} {B : Nat} {o : Obj} (h : w.heap[B]? = some o) (hb : Below w.heap.size w w') : w'.heap[B]? = some o := (hb.block _ (Array.getElem?_eq_some_iff.1 h).1).trans h
theorem below_thn {W u v : World} (h : Below W.heap.size W u) (k : Below u.heap.size u v) : Below W.heap.size W v := h.trans (k.mono h.size)
theorem below_new (w : World) (o : Obj) : Below w.heap.size w (w.alloc o) := (Below.refl _ _).alloc (Nat.le_refl _) _
theorem cells_top (w : World) (arr : Array Value) (t : TypeId) {b : Nat} (hb : b = w.heap.size) (j : Nat) : (w.alloc (.cells arr t)).cell? ⟨b, j, none⟩ = arr[j]? := by
  subst hb
  have h := (MapKept.heap_alloc w (.cells arr t)).1
  unfold World.cell?
  simp only [h]
  rfl

/-- A world of a class. -/
structure Among (S : World → Prop) where
  val : World
  ok : S val
theorem among_out {S : World → Prop} {w : World} (h : ∃ x : Among S, w = x.val) : S w := by
  obtain ⟨x, rfl⟩ := h
  exact x.ok
/-- A region that draws its order, whose operations read, and whose calls keep a class of worlds: one walk serves every order. -/
theorem wp_region_class {P : Program} {id : Nat} {Q : Exit → Act → World → Prop} {a : Act} {w : World} {l : List Oper} (S : World → Prop) (hm : P.follows .mixedOrders = true) (hB : Region.lexB .any l.toArray = true) (hS : S w.drew)
    (h : wpQuiet P l.toArray (fun w' => ∃ x : Among S, w' = x.val) (fun a' => ∀ w', (∃ x : Among S, w' = x.val) → Q .normal a' w') l a) : (Code.region id l.toArray true).wp P Q a w :=
  wp_region_quiet (C := fun w' => ∃ x : Among S, w' = x.val) hm hB ⟨⟨_, hS⟩, rfl⟩ (by simpa using h)
/-- A call within such a region. -/
theorem calls_class {P : Program} {f : FuncId} {args : Array Value} {S : World → Prop} {x : Among S} {v : Value} (h : Calls P f args x.val fun e w' => e = .returned v ∧ S w') :
    Calls P f args x.val fun e w'' => e = .returned v ∧ ∃ y : Among S, w'' = y.val :=
  h.mono fun _ w' ⟨he, hs⟩ => ⟨he, ⟨w', hs⟩, rfl⟩
theorem among_below {W : World} {a : Addr} {v : Value} (h : W.cell? a = some v) (x : Among (Below W.heap.size W)) : x.val.cell? a = some v := below_cell x.ok h

/-- A slice that reads as numbers. -/
def NumsAt (w : World) (a : Option Addr) (len : Nat) (F : Nat → Int) : Prop :=
  ∀ j, j < len → ∃ b off, a = some ⟨b, off, none⟩ ∧ w.cell? ⟨b, off + j, none⟩ = some (.int .i64 (F j))
theorem NumsAt.below {w w' : World} {a : Option Addr} {len : Nat} {F : Nat → Int} (h : NumsAt w a len F) (hb : Below w.heap.size w w') : NumsAt w' a len F := fun j hj => by
  obtain ⟨b, off, h0, h1⟩ := h j hj
  exact ⟨b, off, h0, below_cell hb h1⟩
theorem NumsAt.alloc {w : World} {a : Option Addr} {len : Nat} {F : Nat → Int} (h : NumsAt w a len F) (o : Obj) : NumsAt (w.alloc o) a len F := h.below (below_new w o)
theorem NumsAt.at {w : World} {b off len : Nat} {F : Nat → Int} (h : NumsAt w (some ⟨b, off, none⟩) len F) {j : Nat} (hj : j < len) : w.cell? ⟨b, off + j, none⟩ = some (.int .i64 (F j)) := by
  obtain ⟨b', off', h0, h1⟩ := h j hj
  cases h0
  exact h1
theorem NumsAt.some {w : World} {a : Option Addr} {len : Nat} {F : Nat → Int} (h : NumsAt w a len F) (h0 : 0 < len) : ∃ b off, a = .some ⟨b, off, none⟩ := by
  obtain ⟨b, off, h1, _⟩ := h 0 h0
  exact ⟨b, off, h1⟩
abbrev shaftV (h : Int) (a : Option Addr) (n c : Nat) : Value := .agg #[.int .i64 h, .slice a n c]
abbrev stampV (i e d : Int) : Value := .agg #[.int .i64 i, .int .i64 e, .int .i64 d]
abbrev spanV (x y : Int) : Value := .agg #[.int .i64 x, .int .i64 y]
abbrev spanB (x y : Int) : Obj := .cells #[.int .i64 x, .int .i64 y] 41
theorem first_cell (w : World) (v : Value) (t : TypeId) {b : Nat} (hb : b = w.heap.size) : (w.alloc (.cells #[v] t)).cell? ⟨b, 0, none⟩ = some v := cells_top w #[v] t hb 0

theorem nums_one {w : World} {b : Nat} {x : Int} (h : w.cell? ⟨b, 0, none⟩ = some (.int .i64 x)) : NumsAt w (some ⟨b, 0, none⟩) 1 (fun _ => x) := fun j hj => by
  obtain rfl : j = 0 := by omega
  exact ⟨b, 0, rfl, h⟩
namespace Pure
/-- Whether some numbers are in a span. -/
def inSpan (lo hi : Int) (len : Nat) (F : Nat → Int) : Bool := decide (∀ j, j < len → lo ≤ F j ∧ F j ≤ hi)
theorem inSpan_no {lo hi : Int} {len : Nat} {F : Nat → Int} {k : Nat} (h : k < len) (h1 : ¬ (lo ≤ F k ∧ F k ≤ hi)) : inSpan lo hi len F = false := by
  unfold inSpan
  exact decide_eq_false fun g => h1 (g k h)
theorem inSpan_yes {lo hi : Int} {len : Nat} {F : Nat → Int} (h : ∀ j, j < len → lo ≤ F j ∧ F j ≤ hi) : inSpan lo hi len F = true := decide_eq_true h
theorem inSpan_one {lo hi x : Int} : inSpan lo hi 1 (fun _ => x) = decide (lo ≤ x ∧ x ≤ hi) := by
  unfold inSpan
  rw [decide_eq_decide]
  exact ⟨fun h => h 0 (by omega), fun h _ _ => h⟩
def err (so : Bool) (e : Int) : Int := if so then 0 else e
end Pure

set_option maxHeartbeats 1000000 in
set_option maxRecDepth 100000 in
theorem within_nums (lo hi : Int) (a : Option Addr) (len cap : Nat) (F : Nat → Int) (hl : len ≤ 9223372036854775807) (w : World) (h : NumsAt w a len F) :
    Calls Try.prog 12 #[spanV lo hi, .slice a len cap] w fun e w' => e = .returned (.bool (Pure.inSpan lo hi len F)) ∧ w' = w.alloc (spanB lo hi) := by
  have HN : Hid (NumsAt (w.alloc (spanB lo hi)) a len F) := Lib.hid (h.alloc _)
  clear h
  go_enter Try.func12, Try.ntmps12
  go_wp2_with fail
  go_loop [6, 9] (fun _ i => ∃ k : Nat, k ≤ len ∧ i = .int .i64 k ∧ ∀ j, j < k → lo ≤ F j ∧ F j ≤ hi) (fun _ i => len - (intOf i).toNat)
  case atStart => exact ⟨0, Nat.zero_le _, rfl, fun j hj => by omega⟩
  case round =>
    obtain ⟨k, hk, rfl, hW⟩ := hrel
    have HW := Lib.hid hW
    clear hW
    by_cases hk1 : k < len
    · obtain ⟨b, off, rfl, hc1⟩ := HN.out k hk1
      by_cases h1 : F k < lo
      · go_wp2_with fail
        go_ret
        exact ⟨ret_bool (Pure.inSpan_no hk1 (by omega)).symm, rfl⟩
      · by_cases h2 : hi < F k
        · go_wp2_with fail
          go_ret
          exact ⟨ret_bool (Pure.inSpan_no hk1 (by omega)).symm, rfl⟩
        · go_wp2_with fail
          go_round
          case rel => exact ⟨k + 1, by omega, by go_num, fun j hj => by
            by_cases e : j = k
            · subst e; omega
            · exact HW.out j (by omega)⟩
          case measure => simp [intOf]; omega
    · obtain rfl : k = len := by omega
      go_wp2_with fail
      go_ret
      exact ⟨ret_bool (Pure.inSpan_yes HW.out).symm, rfl⟩

theorem within1 (lo hi a : Int) (b cap : Nat) (w : World) (h0 : w.cell? ⟨b, 0, none⟩ = some (.int .i64 a)) (r : Bool) (hr : decide (lo ≤ a ∧ a ≤ hi) = r) :
    Calls Try.prog 12 #[spanV lo hi, .slice (some ⟨b, 0, none⟩) 1 cap] w fun e w' => e = .returned (.bool r) ∧ w' = w.alloc (spanB lo hi) :=
  (within_nums lo hi _ 1 cap _ (by omega) w (nums_one h0)).mono fun _ _ g => ⟨g.1.trans (ret_bool (Pure.inSpan_one.trans hr)), g.2⟩
/-- A row of a slice of structs, cell by cell. -/
theorem nums_row {w : World} {b off n k i : Nat} {F : Nat → Int} (h : NumsAt w (some ⟨b, off, none⟩) n F) (hk : k + i < n) : w.cell? ⟨b, off + k + i, none⟩ = some (.int .i64 (F (k + i))) := by
  rw [Nat.add_assoc]
  exact h.at hk
namespace Pure
/-- The first place at which something is so; -1 if there is none. -/
def firstAt (q : Nat → Bool) (len : Nat) : Int := match (List.range len).find? q with
  | some j => j
  | none => -1
theorem firstAt_hit {q : Nat → Bool} {len k : Nat} (hk : k < len) (h : ∀ j, j < k → q j = false) (h1 : q k = true) : firstAt q len = k := by
  unfold firstAt
  have : (List.range len).find? q = some k := by
    rw [List.find?_range_eq_some]
    exact ⟨h1, List.mem_range.2 hk, fun j hj => by simp [h j hj]⟩
  rw [this]
theorem firstAt_none {q : Nat → Bool} {len : Nat} (h : ∀ j, j < len → q j = false) : firstAt q len = -1 := by
  unfold firstAt
  have : (List.range len).find? q = none := by
    rw [List.find?_eq_none]
    intro x hx
    simp [h x (List.mem_range.1 hx)]
  rw [this]
theorem firstAt_some {q : Nat → Bool} {len : Nat} : decide (0 ≤ firstAt q len) = (List.range len).any q := by
  unfold firstAt
  cases h : (List.range len).find? q with
  | some j =>
    have h1 := List.find?_some h
    have h2 := List.mem_of_find?_eq_some h
    have : (List.range len).any q = true := List.any_eq_true.2 ⟨j, h2, h1⟩
    rw [this]
    simp
  | none =>
    have : (List.range len).any q = false := by
      rw [List.any_eq_false]
      intro x hx
      exact List.find?_eq_none.1 h x hx
    rw [this]
    rfl
/-- Whether each may follow the one before it. -/
def inOrder (q : Nat → Bool) (len : Nat) : Bool := decide (∀ j, j < len - 1 → q j = true)
theorem inOrder_no {q : Nat → Bool} {len k : Nat} (h : k + 1 < len) (h1 : q k = false) : inOrder q len = false := by
  unfold inOrder
  exact decide_eq_false fun g => by rw [g k (by omega)] at h1; cases h1
theorem inOrder_yes {q : Nat → Bool} {len : Nat} (h : ∀ j, j < len - 1 → q j = true) : inOrder q len = true := decide_eq_true h
end Pure

/-- The cells of some numbers. -/
def numsCells (len : Nat) (F : Nat → Int) : List Value := (List.range len).map fun j => .int .i64 (F j)
theorem numsCells_length (len : Nat) (F : Nat → Int) : (numsCells len F).length = len := by simp [numsCells]
theorem numsCells_at {len : Nat} {F : Nat → Int} {j : Nat} {v : Value} (h : (numsCells len F)[j]? = some v) : j < len ∧ v = .int .i64 (F j) := by
  unfold numsCells at h
  rw [List.getElem?_map] at h
  by_cases hj : j < len
  · rw [List.getElem?_range hj] at h
    simp at h
    exact ⟨hj, h.symm⟩
  · rw [List.getElem?_eq_none (by simpa using hj)] at h
    cases h
theorem numsCells_get {len : Nat} {F : Nat → Int} {j : Nat} (h : j < len) : (numsCells len F)[j]? = some (.int .i64 (F j)) := by
  unfold numsCells
  rw [List.getElem?_map, List.getElem?_range h]
  rfl
theorem numsCells_hold {w : World} {b off len : Nat} {F : Nat → Int} (h : NumsAt w (some ⟨b, off, none⟩) len F) {j : Nat} {v : Value} (hj : (numsCells len F)[j]? = some v) : w.cell? ((⟨b, off, none⟩ : Addr).add j) = some v := by
  obtain ⟨h1, rfl⟩ := numsCells_at hj
  rw [Go.WideShapes.add_plain]
  exact h.at h1
/-- A slice of the call's own memory, which reads as these numbers. -/
def OwnNums (w : World) (base : Nat) (t : TypeId) (k : Nat) (a : Option Addr) (len cap : Nat) (F : Nat → Int) : Prop := w.ownsRow base t k (.slice a len cap) len (numsCells (len * k) F)
theorem OwnNums.nums {w : World} {base : Nat} {t : TypeId} {k : Nat} {a : Option Addr} {len cap : Nat} {F : Nat → Int} (h : OwnNums w base t k a len cap F) : NumsAt w a (len * k) F := by
  obtain ⟨_, ⟨_, hn⟩ | ⟨g, cap', cur, he, _, hg, _, _, _, ht⟩⟩ := h
  · subst hn
    intro j hj
    omega
  · simp only [Value.slice.injEq] at he
    obtain ⟨rfl, _, rfl⟩ := he
    refine fun j hj => ⟨g, 0, rfl, ?_⟩
    have h1 := numsCells_get (F := F) hj
    rw [← ht, List.getElem?_take_of_lt (by omega)] at h1
    unfold World.cell?
    simp only [hg]
    simpa using h1
theorem OwnNums.below {w w' : World} {base : Nat} {t : TypeId} {k : Nat} {a : Option Addr} {len cap : Nat} {F : Nat → Int} (h : OwnNums w base t k a len cap F) (hb : Below w.heap.size w w') : OwnNums w' base t k a len cap F := by
  obtain ⟨h0, h1 | ⟨g, cap', cur, he, hbase, hg, h2⟩⟩ := h
  · exact ⟨h0, .inl h1⟩
  · exact ⟨h0, .inr ⟨g, cap', cur, he, hbase, heap_lft hg hb, h2⟩⟩
theorem OwnNums.base {w : World} {base base' : Nat} {t : TypeId} {k : Nat} {a : Option Addr} {len cap : Nat} {F : Nat → Int} (h : OwnNums w base t k a len cap F) (hb : base' ≤ base) : OwnNums w base' t k a len cap F := by
  obtain ⟨h0, h1 | ⟨g, cap', cur, he, hbase, h2⟩⟩ := h
  · exact ⟨h0, .inl h1⟩
  · exact ⟨h0, .inr ⟨g, cap', cur, he, by omega, h2⟩⟩
theorem own_empty (w : World) (t : TypeId) (k : Nat) {b base : Nat} (hb : b = w.heap.size) (hbase : base ≤ b) (F : Nat → Int) : OwnNums (w.alloc (.cells #[] t)) base t k (some ⟨b, 0, none⟩) 0 0 F := by
  subst hb
  refine ⟨by simp [numsCells], .inr ⟨w.heap.size, 0, #[], rfl, hbase, heap_top _ _ rfl, by simp, by unfold maxLen; omega, by simp, by simp [numsCells]⟩⟩
theorem own_nil (w : World) (t : TypeId) (k base : Nat) (F : Nat → Int) : OwnNums w base t k none 0 0 F := ⟨by simp [numsCells], .inl ⟨rfl, rfl⟩⟩
theorem OwnNums.set {w : World} {base : Nat} {t : TypeId} {k : Nat} {a : Option Addr} {len cap : Nat} {F : Nat → Int} (h : OwnNums w base t k a len cap F) {p : Addr} (hp : p.block < base) (u : Value) : OwnNums (w.setCell p u) base t k a len cap F := by
  obtain ⟨h0, h1 | ⟨g, cap', cur, he, hbase, hg, h2⟩⟩ := h
  · exact ⟨h0, .inl h1⟩
  · exact ⟨h0, .inr ⟨g, cap', cur, he, hbase, (Below.heap_setCell _ _ _ _ (by omega)).trans hg, h2⟩⟩
theorem heap_set {W : World} {g : Nat} {arr : Array Value} {t : TypeId} (h : W.heap[g]? = some (.cells arr t)) (i : Nat) (u : Value) : (W.setCell ⟨g, i, none⟩ u).heap[g]? = some (.cells (arr.setIfInBounds i u) t) := by
  simp [World.setCell, Array.getElem?_modify, h]
/-- Two slices of two arrays. -/
def Apart (a b : Option Addr) : Prop := ∀ x y, a = some x → b = some y → x.block ≠ y.block
theorem OwnNums.lt {w : World} {base : Nat} {t : TypeId} {k : Nat} {a : Option Addr} {len cap : Nat} {F : Nat → Int} (h : OwnNums w base t k a len cap F) (x : Addr) (hx : a = some x) : base ≤ x.block ∧ x.block < w.heap.size := by
  obtain ⟨_, ⟨h1, _⟩ | ⟨g, _, _, he, hb, hg, _⟩⟩ := h
  · subst hx; cases h1
  · subst hx
    simp only [Value.slice.injEq, Option.some.injEq] at he
    obtain ⟨rfl, _⟩ := he
    exact ⟨hb, (Array.getElem?_eq_some_iff.1 hg).1⟩
theorem OwnNums.apart {w w' : World} {base : Nat} {t t' : TypeId} {k k' : Nat} {a a' : Option Addr} {len cap len' cap' : Nat} {F F' : Nat → Int} (h : OwnNums w base t k a len cap F) (h' : OwnNums w' w.heap.size t' k' a' len' cap' F') : Apart a a' := fun x y hx hy e => by
  have h1 := (h.lt x hx).2
  have h2 := (h'.lt y hy).1
  omega
theorem OwnNums.kept {w w' : World} {base : Nat} {t : TypeId} {k : Nat} {a : Option Addr} {len cap : Nat} {F : Nat → Int} (h : OwnNums w base t k a len cap F) (hk : ∀ x, a = some x → w'.heap[x.block]? = w.heap[x.block]?) : OwnNums w' base t k a len cap F := by
  obtain ⟨h0, h1 | ⟨g, cap', cur, he, hbase, hg, h2⟩⟩ := h
  · exact ⟨h0, .inl h1⟩
  · simp only [Value.slice.injEq] at he
    obtain ⟨rfl, _, rfl⟩ := he
    exact ⟨h0, .inr ⟨g, cap, cur, rfl, hbase, (hk _ rfl).trans hg, h2⟩⟩
/-- A slice that may be written: its block is of the call's own memory. -/
def RowOk (w : World) (base top : Nat) (k : Nat) (a : Option Addr) (len : Nat) : Prop :=
  len = 0 ∨ ∃ g cur t, a = some ⟨g, 0, none⟩ ∧ base ≤ g ∧ g < top ∧ w.heap[g]? = some (.cells cur t) ∧ len * k ≤ cur.size
theorem OwnNums.row {w : World} {base : Nat} {t : TypeId} {k : Nat} {a : Option Addr} {len cap : Nat} {F : Nat → Int} (h : OwnNums w base t k a len cap F) : RowOk w base w.heap.size k a len := by
  obtain ⟨h0, h1 | ⟨g, cap', cur, he, hbase, hg, h2, _, h4, _⟩⟩ := h
  · exact .inl h1.2
  · simp only [Value.slice.injEq] at he
    obtain ⟨rfl, _, rfl⟩ := he
    exact .inr ⟨g, cur, t, rfl, hbase, (Array.getElem?_eq_some_iff.1 hg).1, hg, by rw [h4]; exact Nat.mul_le_mul_right _ h2⟩
theorem RowOk.below {w w' : World} {base top k : Nat} {a : Option Addr} {len : Nat} (h : RowOk w base top k a len) (hb : Below w.heap.size w w') : RowOk w' base top k a len := by
  rcases h with h | ⟨g, cur, t, h1, h2, h3, h4, h5⟩
  · exact .inl h
  · exact .inr ⟨g, cur, t, h1, h2, h3, heap_lft h4 hb, h5⟩
theorem RowOk.set {w : World} {base top k : Nat} {a : Option Addr} {len : Nat} (h : RowOk w base top k a len) (g' i : Nat) (u : Value) : RowOk (w.setCell ⟨g', i, none⟩ u) base top k a len := by
  rcases h with h | ⟨g, cur, t, h1, h2, h3, h4, h5⟩
  · exact .inl h
  · by_cases e : g = g'
    · subst e
      exact .inr ⟨g, cur.setIfInBounds i u, t, h1, h2, h3, heap_set h4 i u, by simpa using h5⟩
    · exact .inr ⟨g, cur, t, h1, h2, h3, (Below.heap_setCell _ _ _ _ e).trans h4, h5⟩
theorem cell_ex {w : World} {g i : Nat} {cur : Array Value} {t : TypeId} (h : w.heap[g]? = some (.cells cur t)) (hi : i < cur.size) : ∃ v, w.cell? ⟨g, i, none⟩ = some v := by
  refine ⟨cur[i], heap_cell h ?_⟩
  simp [hi]

theorem run_clear_rows {P : Program} (w : World) (t e ty : TypeId) (k : Nat) (hk0 : 0 < k) (z : Value) (ht : P.underlying t = some (.slice e)) (hv : ∀ w, (zeroValue e).run P w = .ok z w) (hz : z.cells = Array.replicate k (.int .i64 0)) (b o n c : Nat) (hn : 0 < n)
    (hc : ∀ j, j < n * k → (w.cell? ⟨b, o + j, none⟩).isSome = true) (hf : ∀ j, j < n * k → w.frozen? ⟨b, o + j, none⟩ = false) :
    (Builtin.clear_ #[t] ty #[.slice (some ⟨b, o, none⟩) n c]).run P w = .ok (.tuple #[]) (w.setCells b o (List.replicate (n * k) (.int .i64 0))) := by
  have hzc : (Builtin.zeroCells z.cells n).toList = List.replicate (n * k) (.int .i64 0) := by
    rw [hz]
    apply List.ext_getElem
    · simp [Builtin.zeroCells]
    · intro i h1 h2
      have hm : i % k < k := Nat.mod_lt _ hk0
      simp [Builtin.zeroCells, hm]
  have hst := run_storeCells_cells (P := P) b o (List.replicate (n * k) (.int .i64 0)) 0 w (by simpa using hc) (by simpa using hf) (by intro v hv'; rw [List.eq_of_mem_replicate hv']; rfl)
  simp only [Nat.add_zero] at hst
  obtain ⟨m, rfl⟩ : ∃ m, n = m + 1 := ⟨n - 1, by omega⟩
  simp [Builtin.clear_, run_underlying ht, hv, hzc, hst]
/-- What stands in a block behind stores in it. -/
theorem heap_setCells {t : TypeId} (g : Nat) : ∀ (vs : List Value) (o : Nat) (w : World) (cur : Array Value), w.heap[g]? = some (.cells cur t) →
    ∃ cur', (w.setCells g o vs).heap[g]? = some (.cells cur' t) ∧ cur'.size = cur.size ∧ ∀ i, i < o → cur'[i]? = cur[i]?
  | [], _, _, cur, h => ⟨cur, h, rfl, fun _ _ => rfl⟩
  | v :: r, o, w, cur, h => by
    obtain ⟨cur', h1, h2, h3⟩ := heap_setCells g r (o + 1) (w.setCell ⟨g, o, none⟩ v) (cur.setIfInBounds o v) (heap_set h o v)
    refine ⟨cur', h1, by rw [h2]; simp, fun i hi => ?_⟩
    rw [h3 i (by omega), Array.getElem?_setIfInBounds_ne (by omega)]
theorem below_setCells {base : Nat} {w : World} (g : Nat) (hg : base ≤ g) : ∀ (vs : List Value) (o : Nat) (v : World), Below base w v → Below base w (v.setCells g o vs)
  | [], _, _, h => h
  | _ :: r, o, _, h => below_setCells g hg r (o + 1) _ (h.setCell hg _)

theorem Pure.firstAt_cases (q : Nat → Bool) (len : Nat) : (Pure.firstAt q len = -1 ∧ ∀ j, j < len → q j = false) ∨ ∃ x : Nat, x < len ∧ Pure.firstAt q len = x ∧ q x = true ∧ ∀ j, j < x → q j = false := by
  unfold Pure.firstAt
  cases h : (List.range len).find? q with
  | none =>
    left
    refine ⟨rfl, fun j hj => ?_⟩
    have := List.find?_eq_none.1 h j (List.mem_range.2 hj)
    simpa using this
  | some x =>
    right
    rw [List.find?_range_eq_some] at h
    obtain ⟨h1, h2, h3⟩ := h
    exact ⟨x, List.mem_range.1 h2, rfl, h1, fun j hj => by have := h3 j hj; simpa using this⟩
/-- Below base as it was; above it only the object g is touched. -/
structure BelowBut (base g : Nat) (w w' : World) : Prop where
  b : Below base w w'
  o : ∀ i, i < w.heap.size → i ≠ g → w'.heap[i]? = w.heap[i]?
theorem BelowBut.andThen {base g : Nat} {w u v : World} (h : BelowBut base g w u) (hb : base ≤ w.heap.size) (k : Below u.heap.size u v) : BelowBut base g w v :=
  ⟨h.b.trans (k.mono (Nat.le_trans hb h.b.size)), fun i hi hg => (k.block i (Nat.lt_of_lt_of_le hi h.b.size)).trans (h.o i hi hg)⟩
theorem BelowBut.set {base g : Nat} {w u : World} (h : BelowBut base g w u) (hg : base ≤ g) (j : Nat) (v : Value) : BelowBut base g w (u.setCell ⟨g, j, none⟩ v) :=
  ⟨h.b.setCell hg v, fun i hi hn => (Below.heap_setCell _ _ _ _ hn).trans (h.o i hi hn)⟩
theorem but_setCells {base : Nat} {w : World} (g : Nat) (hg : base ≤ g) : ∀ (vs : List Value) (o : Nat) (v : World), BelowBut base g w v → BelowBut base g w (v.setCells g o vs)
  | [], _, _, h => h
  | _ :: r, o, _, h => but_setCells g hg r (o + 1) _ (h.set hg _ _)

theorem numsCells_congr {n : Nat} {F G : Nat → Int} (h : ∀ q, q < n → F q = G q) : numsCells n F = numsCells n G := by
  unfold numsCells
  exact List.map_congr_left fun q hq => by rw [h q (List.mem_range.1 hq)]

namespace Pure
def cmp (x y : Int) : Int := if x < y then -1 else if y < x then 1 else 0
end Pure

theorem isNaN_any (x : Int) (w : World) : Calls Try.prog 34 #[.int .i64 x] w fun e w' => e = .returned (.bool false) ∧ w = w' := by
  go_enter Try.func34, Try.ntmps34
  go_wp2_with fail
  go_ret
  exact ⟨rfl, rfl⟩
theorem OwnNums.ne {w : World} {base : Nat} {t : TypeId} {k : Nat} {a : Option Addr} {len cap : Nat} {F : Nat → Int} (h : OwnNums w base t k a len cap F) {i : Nat} {arr : Array Value} {t' : TypeId} (hi : w.heap[i]? = some (.cells arr t')) (ht : t ≠ t') (x : Addr) (hx : a = some x) : x.block ≠ i := by
  obtain ⟨_, ⟨h1, _⟩ | ⟨g, _, _, he, hb, hg, _⟩⟩ := h
  · subst hx; cases h1
  · subst hx
    simp only [Value.slice.injEq, Option.some.injEq] at he
    obtain ⟨rfl, _⟩ := he
    rintro rfl
    dsimp only at hi
    rw [hg] at hi
    simp only [Option.some.injEq, Obj.cells.injEq] at hi
    exact ht hi.2.1

end Go.Proofs.Ytiiekecohmaipaa
