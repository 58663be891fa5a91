/-
  Common ground for the walks over package round: what a call leaves of memory, watches as values; its small functions.
-/
import Derived.Test.YtacdbjandcdejaaPSame
import Derived.Test.YtacdbjandcdejaaPRef
import Derived.WalkKit
import Derived.OwnWalkIn
import Derived.Maps.Own
import Derived.Lib.Hide
import Derived.Deep.Quiet
import Derived.BigQuiet
import Derived.Deep.RegionWith
import Derived.Outline
import Derived.Laws.EntriesVeiled
import Derived.WalkLawsBesides
import Derived.RegionTactic
import Derived.ArgAppend
import Derived.Lib.SliceRun
import Derived.Deep.CutRange
namespace Go.Proofs.Ytacdbjandcdejaa
open Go.RowKit

abbrev shaftV (h : Int) (a : Option Addr) (n c : Nat) : Value := .agg #[.int .i64 h, .slice a n c]
abbrev stampV (i e d : Int) : Value := .agg #[.int .i64 i, .int .i64 e, .int .i64 d]
namespace Pure
end Pure

set_option maxHeartbeats 1000000 in
set_option maxRecDepth 100000 in
theorem within_numsG (lo hi : Int) (a : Option Addr) (len cap : Nat) (F : Nat → Int) (hl : len ≤ 9223372036854775807) (w : World) (h : NumsAt w a len F) :
    Calls Try.prog 32 #[spanV lo hi, .slice a len cap] w fun e w' => e = .returned (.bool (Pure.inSpan lo hi len F)) ∧ w' = w.alloc (spanB lo hi) := by
  have HN : Hid (NumsAt (w.alloc (spanB lo hi)) a len F) := Lib.hid (h.alloc _)
  clear h
  go_enter Try.func32, Try.ntmps32
  go_wp2_with fail
  go_loop [6, 9] (fun _ i => ∃ k : Nat, k ≤ len ∧ i = .int .i64 k ∧ ∀ j, j < k → lo ≤ F j ∧ F j ≤ hi) (fun _ i => len - (intOf i).toNat)
  case atStart => exact ⟨0, Nat.zero_le _, rfl, fun j hj => by omega⟩
  case round =>
    obtain ⟨k, hk, rfl, hW⟩ := hrel
    have HW := Lib.hid hW
    clear hW
    by_cases hk1 : k < len
    · obtain ⟨b, off, rfl, hc1⟩ := HN.out k hk1
      by_cases h1 : F k < lo
      · go_wp2_with fail
        go_ret
        exact ⟨ret_bool (Pure.inSpan_no hk1 (by omega)).symm, rfl⟩
      · by_cases h2 : hi < F k
        · go_wp2_with fail
          go_ret
          exact ⟨ret_bool (Pure.inSpan_no hk1 (by omega)).symm, rfl⟩
        · go_wp2_with fail
          go_round
          case rel => exact ⟨k + 1, by omega, by go_num, fun j hj => by
            by_cases e : j = k
            · subst e; omega
            · exact HW.out j (by omega)⟩
          case measure => simp [intOf]; omega
    · obtain rfl : k = len := by omega
      go_wp2_with fail
      go_ret
      exact ⟨ret_bool (Pure.inSpan_yes HW.out).symm, rfl⟩

theorem within1G (lo hi a : Int) (b cap : Nat) (w : World) (h0 : w.cell? ⟨b, 0, none⟩ = some (.int .i64 a)) (r : Bool) (hr : decide (lo ≤ a ∧ a ≤ hi) = r) :
    Calls Try.prog 32 #[spanV lo hi, .slice (some ⟨b, 0, none⟩) 1 cap] w fun e w' => e = .returned (.bool r) ∧ w' = w.alloc (spanB lo hi) :=
  (within_numsG lo hi _ 1 cap _ (by omega) w (nums_one h0)).mono fun _ _ g => ⟨g.1.trans (ret_bool (Pure.inSpan_one.trans hr)), g.2⟩
theorem unless_anyG (so : Bool) (n : Int) (w : World) : Calls Try.prog 27 #[.bool so, .int .i64 n] w fun e w' => e = .returned (.int .i64 (Pure.err so n)) ∧ w = w' := by
  cases so
  · go_enter Try.func27, Try.ntmps27
    go_wp2_with fail
    go_ret
    exact ⟨rfl, rfl⟩
  · go_enter Try.func27, Try.ntmps27
    go_wp2_with fail
    go_ret
    exact ⟨rfl, rfl⟩

namespace Pure
end Pure

/-- A slice that may be written: its block is of the call's own memory. -/
def RowOk (w : World) (base top : Nat) (k : Nat) (a : Option Addr) (len : Nat) : Prop :=
  len = 0 ∨ ∃ g cur t, a = some ⟨g, 0, none⟩ ∧ base ≤ g ∧ g < top ∧ w.heap[g]? = some (.cells cur t) ∧ len * k ≤ cur.size
theorem OwnNums.row {w : World} {base : Nat} {t : TypeId} {k : Nat} {a : Option Addr} {len cap : Nat} {F : Nat → Int} (h : OwnNums w base t k a len cap F) : RowOk w base w.heap.size k a len := by
  obtain ⟨h0, h1 | ⟨g, cap', cur, he, hbase, hg, h2, _, h4, _⟩⟩ := h
  · exact .inl h1.2
  · simp only [Value.slice.injEq] at he
    obtain ⟨rfl, _, rfl⟩ := he
    exact .inr ⟨g, cur, t, rfl, hbase, (Array.getElem?_eq_some_iff.1 hg).1, hg, by rw [h4]; exact Nat.mul_le_mul_right _ h2⟩
theorem RowOk.below {w w' : World} {base top k : Nat} {a : Option Addr} {len : Nat} (h : RowOk w base top k a len) (hb : Below w.heap.size w w') : RowOk w' base top k a len := by
  rcases h with h | ⟨g, cur, t, h1, h2, h3, h4, h5⟩
  · exact .inl h
  · exact .inr ⟨g, cur, t, h1, h2, h3, heap_lft h4 hb, h5⟩
theorem RowOk.set {w : World} {base top k : Nat} {a : Option Addr} {len : Nat} (h : RowOk w base top k a len) (g' i : Nat) (u : Value) : RowOk (w.setCell ⟨g', i, none⟩ u) base top k a len := by
  rcases h with h | ⟨g, cur, t, h1, h2, h3, h4, h5⟩
  · exact .inl h
  · by_cases e : g = g'
    · subst e
      exact .inr ⟨g, cur.setIfInBounds i u, t, h1, h2, h3, heap_set h4 i u, by simpa using h5⟩
    · exact .inr ⟨g, cur, t, h1, h2, h3, (Below.heap_setCell _ _ _ _ e).trans h4, h5⟩
theorem cell_ex {w : World} {g i : Nat} {cur : Array Value} {t : TypeId} (h : w.heap[g]? = some (.cells cur t)) (hi : i < cur.size) : ∃ v, w.cell? ⟨g, i, none⟩ = some v := by
  refine ⟨cur[i], heap_cell h ?_⟩
  simp [hi]

theorem run_clear_rows {P : Program} (w : World) (t e ty : TypeId) (k : Nat) (hk0 : 0 < k) (z : Value) (ht : P.underlying t = some (.slice e)) (hv : ∀ w, (zeroValue e).run P w = .ok z w) (hz : z.cells = Array.replicate k (.int .i64 0)) (b o n c : Nat) (hn : 0 < n)
    (hc : ∀ j, j < n * k → (w.cell? ⟨b, o + j, none⟩).isSome = true) (hf : ∀ j, j < n * k → w.frozen? ⟨b, o + j, none⟩ = false) :
    (Builtin.clear_ #[t] ty #[.slice (some ⟨b, o, none⟩) n c]).run P w = .ok (.tuple #[]) (w.setCells b o (List.replicate (n * k) (.int .i64 0))) := by
  have hzc : (Builtin.zeroCells z.cells n).toList = List.replicate (n * k) (.int .i64 0) := by
    rw [hz]
    apply List.ext_getElem
    · simp [Builtin.zeroCells]
    · intro i h1 h2
      have hm : i % k < k := Nat.mod_lt _ hk0
      simp [Builtin.zeroCells, hm]
  have hst := run_storeCells_cells (P := P) b o (List.replicate (n * k) (.int .i64 0)) 0 w (by simpa using hc) (by simpa using hf) (by intro v hv'; rw [List.eq_of_mem_replicate hv']; rfl)
  simp only [Nat.add_zero] at hst
  obtain ⟨m, rfl⟩ : ∃ m, n = m + 1 := ⟨n - 1, by omega⟩
  simp [Builtin.clear_, run_underlying ht, hv, hzc, hst]
/-- What stands in a block behind stores in it. -/
theorem heap_setCells {t : TypeId} (g : Nat) : ∀ (vs : List Value) (o : Nat) (w : World) (cur : Array Value), w.heap[g]? = some (.cells cur t) →
    ∃ cur', (w.setCells g o vs).heap[g]? = some (.cells cur' t) ∧ cur'.size = cur.size ∧ ∀ i, i < o → cur'[i]? = cur[i]?
  | [], _, _, cur, h => ⟨cur, h, rfl, fun _ _ => rfl⟩
  | v :: r, o, w, cur, h => by
    obtain ⟨cur', h1, h2, h3⟩ := heap_setCells g r (o + 1) (w.setCell ⟨g, o, none⟩ v) (cur.setIfInBounds o v) (heap_set h o v)
    refine ⟨cur', h1, by rw [h2]; simp, fun i hi => ?_⟩
    rw [h3 i (by omega), Array.getElem?_setIfInBounds_ne (by omega)]
theorem below_setCells {base : Nat} {w : World} (g : Nat) (hg : base ≤ g) : ∀ (vs : List Value) (o : Nat) (v : World), Below base w v → Below base w (v.setCells g o vs)
  | [], _, _, h => h
  | _ :: r, o, _, h => below_setCells g hg r (o + 1) _ (h.setCell hg _)

theorem Pure.firstAt_cases (q : Nat → Bool) (len : Nat) : (Pure.firstAt q len = -1 ∧ ∀ j, j < len → q j = false) ∨ ∃ x : Nat, x < len ∧ Pure.firstAt q len = x ∧ q x = true ∧ ∀ j, j < x → q j = false := by
  unfold Pure.firstAt
  cases h : (List.range len).find? q with
  | none =>
    left
    refine ⟨rfl, fun j hj => ?_⟩
    have := List.find?_eq_none.1 h j (List.mem_range.2 hj)
    simpa using this
  | some x =>
    right
    rw [List.find?_range_eq_some] at h
    obtain ⟨h1, h2, h3⟩ := h
    exact ⟨x, List.mem_range.1 h2, rfl, h1, fun j hj => by have := h3 j hj; simpa using this⟩
/-- Below base as it was; above it only the object g is touched. -/
structure BelowBut (base g : Nat) (w w' : World) : Prop where
  b : Below base w w'
  o : ∀ i, i < w.heap.size → i ≠ g → w'.heap[i]? = w.heap[i]?
theorem BelowBut.andThen {base g : Nat} {w u v : World} (h : BelowBut base g w u) (hb : base ≤ w.heap.size) (k : Below u.heap.size u v) : BelowBut base g w v :=
  ⟨h.b.trans (k.mono (Nat.le_trans hb h.b.size)), fun i hi hg => (k.block i (Nat.lt_of_lt_of_le hi h.b.size)).trans (h.o i hi hg)⟩
theorem BelowBut.set {base g : Nat} {w u : World} (h : BelowBut base g w u) (hg : base ≤ g) (j : Nat) (v : Value) : BelowBut base g w (u.setCell ⟨g, j, none⟩ v) :=
  ⟨h.b.setCell hg v, fun i hi hn => (Below.heap_setCell _ _ _ _ hn).trans (h.o i hi hn)⟩
theorem but_setCells {base : Nat} {w : World} (g : Nat) (hg : base ≤ g) : ∀ (vs : List Value) (o : Nat) (v : World), BelowBut base g w v → BelowBut base g w (v.setCells g o vs)
  | [], _, _, h => h
  | _ :: r, o, _, h => but_setCells g hg r (o + 1) _ (h.set hg _ _)

theorem numsCells_congr {n : Nat} {F G : Nat → Int} (h : ∀ q, q < n → F q = G q) : numsCells n F = numsCells n G := by
  unfold numsCells
  exact List.map_congr_left fun q hq => by rw [h q (List.mem_range.1 hq)]

namespace Pure
def cmp (x y : Int) : Int := if x < y then -1 else if y < x then 1 else 0
end Pure

theorem OwnNums.ne {w : World} {base : Nat} {t : TypeId} {k : Nat} {a : Option Addr} {len cap : Nat} {F : Nat → Int} (h : OwnNums w base t k a len cap F) {i : Nat} {arr : Array Value} {t' : TypeId} (hi : w.heap[i]? = some (.cells arr t')) (ht : t ≠ t') (x : Addr) (hx : a = some x) : x.block ≠ i := by
  obtain ⟨_, ⟨h1, _⟩ | ⟨g, _, _, he, hb, hg, _⟩⟩ := h
  · subst hx; cases h1
  · subst hx
    simp only [Value.slice.injEq, Option.some.injEq] at he
    obtain ⟨rfl, _⟩ := he
    rintro rfl
    dsimp only at hi
    rw [hg] at hi
    simp only [Option.some.injEq, Obj.cells.injEq] at hi
    exact ht hi.2.1

end Go.Proofs.Ytacdbjandcdejaa
