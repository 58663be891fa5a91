/-
  Common ground for the walks over package plan: what a call leaves of memory, plans as values.
-/
import Derived.Test.YtacdbjandcdejaaProg
import Derived.WalkKit
import Derived.OwnWalkIn
import Derived.Maps.Own
import Derived.Lib.Hide
import Derived.Deep.Quiet
import Derived.BigQuiet
import Derived.Deep.RegionWith
import Derived.Outline
import Derived.Laws.EntriesVeiled
import Derived.WalkLawsBesides
import Derived.RegionTactic
namespace Go.Proofs.Ytacdbjandcdejaa
open Go.RowKit

theorem ret_int {q : IntKind} {a b : Int} (h : a = b) : Ending.returned (.int q a) = .returned (.int q b) := by rw [h]
theorem ret_bool {a b : Bool} (h : a = b) : Ending.returned (.bool a) = .returned (.bool b) := by rw [h]
theorem cell_up {w : World} {a : Addr} {v : Value} (h : w.cell? a = some v) (o : Obj) : (w.alloc o).cell? a = some v := (World.cell?_alloc_lt _ _ _ (World.block_lt_of_cell? w _ h)).trans h
theorem below_cell {w w' : World} (h : Below w.heap.size w w') {a : Addr} {v : Value} (hc : w.cell? a = some v) : w'.cell? a = some v := (h.cell (World.block_lt_of_cell? w a hc)).trans hc
theorem heap_cell {V : World} {k j : Nat} {arr : Array Value} {t : TypeId} {v : Value} (h : V.heap[k]? = some (.cells arr t)) (hv : arr[j]? = some v) : V.cell? ⟨k, j, none⟩ = some v := by
  unfold World.cell?
  simp only [h]
  exact hv
theorem heap_frozen {W : World} {g : Nat} {arr : Array Value} {t : TypeId} (h : W.heap[g]? = some (.cells arr t)) (i : Nat) : W.frozen? ⟨g, i, none⟩ = false := by
  simp [World.frozen?, h]
theorem heap_top (w : World) (o : Obj) {b : Nat} (hb : b = w.heap.size) : (w.alloc o).heap[b]? = some o := by subst hb; exact (MapKept.heap_alloc w o).1
theorem heap_up {w : World} {b : Nat} {o : Obj} (h : w.heap[b]? = some o) (o' : Obj) : (w.alloc o').heap[b]? = some o := (Below.heap_alloc _ _ _ (Array.getElem?_eq_some_iff.1 h).1).trans h
theorem heap_lft {w w' : World} {B : Nat} {o : Obj} (h : w.heap[B]? = some o) (hb : Below w.heap.size w w') : w'.heap[B]? = some o := (hb.block _ (Array.getElem?_eq_some_iff.1 h).1).trans h
theorem below_thn {W u v : World} (h : Below W.heap.size W u) (k : Below u.heap.size u v) : Below W.heap.size W v := h.trans (k.mono h.size)
theorem below_new (w : World) (o : Obj) : Below w.heap.size w (w.alloc o) := (Below.refl _ _).alloc (Nat.le_refl _) _
theorem cells_top (w : World) (arr : Array Value) (t : TypeId) {b : Nat} (hb : b = w.heap.size) (j : Nat) : (w.alloc (.cells arr t)).cell? ⟨b, j, none⟩ = arr[j]? := by
  subst hb
  have h := (MapKept.heap_alloc w (.cells arr t)).1
  unfold World.cell?
  simp only [h]
  rfl

/-- A world of a class. -/
structure Among (S : World → Prop) where
  val : World
  ok : S val
theorem among_out {S : World → Prop} {w : World} (h : ∃ x : Among S, w = x.val) : S w := by
  obtain ⟨x, rfl⟩ := h
  exact x.ok
/-- A region that draws its order, whose operations read, and whose calls keep a class of worlds: one walk serves every order. -/
theorem wp_region_class {P : Program} {id : Nat} {Q : Exit → Act → World → Prop} {a : Act} {w : World} {l : List Oper} (S : World → Prop) (hm : P.follows .mixedOrders = true) (hB : Region.lexB .any l.toArray = true) (hS : S w.drew)
    (h : wpQuiet P l.toArray (fun w' => ∃ x : Among S, w' = x.val) (fun a' => ∀ w', (∃ x : Among S, w' = x.val) → Q .normal a' w') l a) : (Code.region id l.toArray true).wp P Q a w :=
  wp_region_quiet (C := fun w' => ∃ x : Among S, w' = x.val) hm hB ⟨⟨_, hS⟩, rfl⟩ (by simpa using h)
/-- A call within such a region. -/
theorem calls_class {P : Program} {f : FuncId} {args : Array Value} {S : World → Prop} {x : Among S} {v : Value} (h : Calls P f args x.val fun e w' => e = .returned v ∧ S w') :
    Calls P f args x.val fun e w'' => e = .returned v ∧ ∃ y : Among S, w'' = y.val :=
  h.mono fun _ w' ⟨he, hs⟩ => ⟨he, ⟨w', hs⟩, rfl⟩
theorem among_below {W : World} {a : Addr} {v : Value} (h : W.cell? a = some v) (x : Among (Below W.heap.size W)) : x.val.cell? a = some v := below_cell x.ok h

/-- A slice that reads as numbers. -/
def NumsAt (w : World) (a : Option Addr) (len : Nat) (F : Nat → Int) : Prop :=
  ∀ j, j < len → ∃ b off, a = some ⟨b, off, none⟩ ∧ w.cell? ⟨b, off + j, none⟩ = some (.int .i64 (F j))
theorem NumsAt.below {w w' : World} {a : Option Addr} {len : Nat} {F : Nat → Int} (h : NumsAt w a len F) (hb : Below w.heap.size w w') : NumsAt w' a len F := fun j hj => by
  obtain ⟨b, off, h0, h1⟩ := h j hj
  exact ⟨b, off, h0, below_cell hb h1⟩
theorem NumsAt.alloc {w : World} {a : Option Addr} {len : Nat} {F : Nat → Int} (h : NumsAt w a len F) (o : Obj) : NumsAt (w.alloc o) a len F := h.below (below_new w o)
theorem NumsAt.at {w : World} {b off len : Nat} {F : Nat → Int} (h : NumsAt w (some ⟨b, off, none⟩) len F) {j : Nat} (hj : j < len) : w.cell? ⟨b, off + j, none⟩ = some (.int .i64 (F j)) := by
  obtain ⟨b', off', h0, h1⟩ := h j hj
  cases h0
  exact h1
theorem NumsAt.some {w : World} {a : Option Addr} {len : Nat} {F : Nat → Int} (h : NumsAt w a len F) (h0 : 0 < len) : ∃ b off, a = .some ⟨b, off, none⟩ := by
  obtain ⟨b, off, h1, _⟩ := h 0 h0
  exact ⟨b, off, h1⟩
/-- A plan as it stands in memory. -/
structure PlanX where
  fr : Int
  ta : Option Addr
  tn : Nat
  tc : Nat
  sd : Int
  ck : Int
  aa : Option Addr
  an : Nat
  ac : Nat
  sa : Option Addr
  sn : Nat
  sc : Nat
  bu : Int
abbrev PlanX.cells (p : PlanX) : Array Value := #[.int .i64 p.fr, .slice p.ta p.tn p.tc, .int .i64 p.sd, .int .i64 p.ck, .slice p.aa p.an p.ac, .slice p.sa p.sn p.sc, .int .i64 p.bu]
abbrev planV (p : PlanX) : Value := .agg p.cells
abbrev planB (p : PlanX) : Obj := .cells p.cells 26
abbrev spanV (x y : Int) : Value := .agg #[.int .i64 x, .int .i64 y]
abbrev spanB (x y : Int) : Obj := .cells #[.int .i64 x, .int .i64 y] 81
abbrev saleV (i s l d : Int) : Value := .agg #[.int .i64 i, .int .i64 s, .int .i64 l, .int .i64 d]
abbrev saleB (i s l d : Int) : Obj := .cells #[.int .i64 i, .int .i64 s, .int .i64 l, .int .i64 d] 41
abbrev arrV (d l : Int) : Value := .agg #[.int .i64 d, .int .i64 l]
abbrev arrB (d l : Int) : Obj := .cells #[.int .i64 d, .int .i64 l] 43
theorem first_cell (w : World) (v : Value) (t : TypeId) {b : Nat} (hb : b = w.heap.size) : (w.alloc (.cells #[v] t)).cell? ⟨b, 0, none⟩ = some v := cells_top w #[v] t hb 0

end Go.Proofs.Ytacdbjandcdejaa
