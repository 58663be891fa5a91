/-
  Common ground for the walks over package sample: the memo map of counter, what a call leaves of memory.
-/
import Derived.Test.YtjegkkpdemoldaaGreatDoorProg
import Derived.Test.YtjegkkpdemoldaaGreatDoorMath
import Derived.WalkKit
import Derived.OwnWalkIn
import Derived.Maps.OwnSet
import Derived.Maps.Own
import Derived.WideKeyPair
import Derived.DeepKeys4
import Derived.Lib.Hide
import Derived.Deep.Quiet
import Derived.BigQuiet
import Derived.Deep.RegionWith
import Derived.Outline
import Derived.Laws.EntriesVeiled
import Derived.WalkLawsBesides
namespace Go.Proofs.YtjegkkpdemoldaaGreatDoor
open Go.RowKit Go.Maps Go.WideMaps
open Go.WideElems (Fit)

theorem laidOut : laidOutB Tryz.prog = true := by kernel_rfl
theorem rowKey : (141 : TypeId) < Tryz.prog.types.size := of_decide_eq_true (by kernel_rfl)
theorem cellsKey : Tryz.prog.cellsOf 141 = 2 := by kernel_rfl
theorem arrKey : ArrKey Tryz.prog 141 3 2 := ⟨Tryz.underlying141, by kernel_rfl, by kernel_rfl, cellsKey⟩
theorem wideKey : (match Tryz.prog.underlying 141 with | some (.array _ _) | some (.struct _) => true | _ => false) = true := by rw [Tryz.underlying141]
set_option maxRecDepth 100000 in
theorem keyed : Keyed Tryz.prog 141 := Keyed.of_law (deep_law_laid laidOut (m := 2) (by decide) rowKey (by kernel_rfl) wideKey)
theorem zeroInt (w : World) : (zeroValue 3).run Tryz.prog w = .ok (.int .i64 0) w := by kernel_rfl
theorem succ_of_lt {a n : Nat} (h : a < n) : ∃ m, n = m + 1 := ⟨n - 1, by omega⟩
theorem typesSucc : ∃ m, Tryz.prog.types.size = m + 1 := succ_of_lt rowKey

/-- The key (n, k) as a value. -/
def keyV (n k : Int) : Value := .agg #[.int .i64 n, .int .i64 k]
theorem keyOf_key {n k : Int} (hn : (Lit.int .i64 n).wf = true) (hk : (Lit.int .i64 k).wf = true) :
    keyOf Tryz.prog 141 (keyV n k) = some (.string (keyBytes [.int .i64 n, .int .i64 k])) :=
  keyOf_pair arrKey Tryz.underlying3 typesSucc hn hk

/-- An entry of the memo: a pair (n, k) within the bounds, and how many sets there are. -/
def Good (e : MapEntry) : Prop := ∃ n k : Nat, k < n ∧ n ≤ 36 ∧ e.key = keyV n k ∧ e.val = .int .i64 (Pure.ch n k)

/-- Block M is a memo: each entry is true. -/
def Memo (w : World) (M : Nat) : Prop :=
  ∃ (es : Array MapEntry) (clock : Nat), w.heap[M]? = some (.map es clock) ∧ Fit Tryz.prog 141 (plainElem (H := Unit) Tryz.prog 3) es clock ∧ ∀ e ∈ es.toList, Good e

theorem Memo.kept {w w' : World} {M : Nat} (h : Memo w M) (hb : w'.heap[M]? = w.heap[M]?) : Memo w' M := by
  obtain ⟨es, clock, h1, h2, h3⟩ := h
  exact ⟨es, clock, hb.trans h1, h2, h3⟩

theorem Memo.lt {w : World} {M : Nat} (h : Memo w M) : M < w.heap.size := by
  obtain ⟨es, clock, h1, _⟩ := h
  exact (Array.getElem?_eq_some_iff.1 h1).1

/-- What a call may do to memory: new blocks, and writes to the memo, which stays true. -/
structure Step (M : Nat) (w w' : World) : Prop where
  grown : w.grownBy w' (some M)
  memo : Memo w' M

theorem wf64 {n : Int} (h0 : -9223372036854775808 ≤ n) (h1 : n ≤ 9223372036854775807) : (Lit.int .i64 n).wf = true := WalkArith.wf_i64 ⟨h0, h1⟩

theorem keyV_inj {a b c d : Int} (h : keyV a b = keyV c d) : a = c ∧ b = d := by
  unfold keyV at h
  simpa using h

/-- A look-up in the memo: nothing is there, or what there is is the number of sets. -/
theorem Memo.look {w : World} {M : Nat} (h : Memo w M) {n k : Int} (h0 : 0 < k) (h1 : k < n) (h2 : n ≤ 36) :
    (∀ w' : World, w'.heap[M]? = w.heap[M]? → (Instr.lookup 140 (.map (some M)) (.agg #[.int .i64 n, .int .i64 k]) true).run Tryz.prog w' = .ok (.tuple #[.int .i64 0, .bool false]) w') ∨
    (∀ w' : World, w'.heap[M]? = w.heap[M]? → (Instr.lookup 140 (.map (some M)) (.agg #[.int .i64 n, .int .i64 k]) true).run Tryz.prog w' = .ok (.tuple #[.int .i64 (Pure.sets n k), .bool true]) w') := by
  obtain ⟨es, clock, hb, F, hG⟩ := h
  have hkey := keyOf_key (n := n) (k := k) (wf64 (by omega) (by omega)) (wf64 (by omega) (by omega))
  rcases fit_look true keyed Tryz.underlying140 (zeroInt w) hb F hkey with ⟨_, hno, _⟩ | ⟨e0, y, he, hk, _, _⟩
  · left
    intro w' hw'
    rcases fit_look true keyed Tryz.underlying140 (zeroInt w') (hw'.trans hb) F hkey with ⟨hr, _, _⟩ | ⟨e1, _, he1, hk1, _⟩
    · exact hr
    · exact absurd hk1 (hno e1 he1)
  · right
    intro w' hw'
    rcases fit_look true keyed Tryz.underlying140 (zeroInt w') (hw'.trans hb) F hkey with ⟨_, hno, _⟩ | ⟨e1, _, he1, hk1, hr, _⟩
    · exact absurd hk (hno e0 he)
    · obtain ⟨a, b, hab, ha, hkk, hv⟩ := hG e1 he1
      have := keyV_inj (hk1.symm.trans hkk)
      obtain ⟨rfl, rfl⟩ := this
      rw [hv] at hr
      rw [Pure.sets_nat]
      exact hr

theorem nodup_le {α : Type} : ∀ (l m : List α), l.Nodup → (∀ x ∈ l, x ∈ m) → l.length ≤ m.length
  | [], _, _, _ => Nat.zero_le _
  | x :: l, m, hn, hs => by
    obtain ⟨hx, hn'⟩ := List.nodup_cons.1 hn
    obtain ⟨a, b, rfl⟩ := List.append_of_mem (hs x (by simp))
    have := nodup_le l (a ++ b) hn' (fun y hy => by
      have h1 := hs y (by simp [hy])
      rcases List.mem_append.1 h1 with h | h
      · exact List.mem_append.2 (.inl h)
      · rcases List.mem_cons.1 h with rfl | h
        · exact absurd hy hx
        · exact List.mem_append.2 (.inr h))
    simp at this ⊢
    omega

/-- All keys that a memo may hold. -/
def allKeys : List Value := (List.range 37).flatMap fun n : Nat => (List.range 37).map fun k : Nat => keyV n k
theorem length_flat {α β : Type} (f : α → List β) (c : Nat) (h : ∀ x, (f x).length = c) : ∀ l : List α, (l.flatMap f).length = l.length * c
  | [] => by simp
  | x :: l => by rw [List.flatMap_cons, List.length_append, h, length_flat f c h l, List.length_cons, Nat.add_mul]; omega
theorem allKeys_length : allKeys.length = 1369 := by
  unfold allKeys
  rw [length_flat _ 37 (fun x => by rw [List.length_map, List.length_range]), List.length_range]
theorem memo_small {es : Array MapEntry} {clock : Nat} (F : MapKept.Stamped es clock) (hG : ∀ e ∈ es.toList, Good e) : es.size ≤ 1369 := by
  have h := nodup_le (es.toList.map (·.key)) allKeys F.2.2 (fun x hx => by
    obtain ⟨e, he, rfl⟩ := List.mem_map.1 hx
    obtain ⟨n, k, hk, hn, hkey, _⟩ := hG e he
    rw [hkey]
    exact List.mem_flatMap.2 ⟨n, List.mem_range.2 (by omega), List.mem_map.2 ⟨k, List.mem_range.2 (by omega), rfl⟩⟩)
  rw [allKeys_length] at h
  simpa using h

/-- A store of a true entry into the memo. -/
theorem Memo.store {w : World} {M : Nat} (h : Memo w M) {n k : Int} (h0 : 0 < k) (h1 : k < n) (h2 : n ≤ 36) :
    ∃ w', (Instr.mapUpdate 140 (.map (some M)) (.agg #[.int .i64 n, .int .i64 k]) (.int .i64 (Pure.sets n k))).run Tryz.prog w = .ok () w' ∧ Step M w w' := by
  obtain ⟨es, clock, hb, F, hG⟩ := h
  have hkey := keyOf_key (n := n) (k := k) (wf64 (by omega) (by omega)) (wf64 (by omega) (by omega))
  have hs0 := Pure.sets_nonneg n k
  have hs1 := Pure.sets_le (k := k) h2
  have hsmall := memo_small F.stamped hG
  obtain ⟨es', clock', hrun, F', _, _, _, hmem⟩ := fit_store (R' := plainElem (H := Unit) Tryz.prog 3) keyed Tryz.underlying140 hb F (by unfold maxLen; omega) (fun _ _ _ _ hz => hz) hkey
    (plainElem_int (H := Unit) Tryz.underlying3 (wf64 (n := Pure.sets n k) (by omega) (by omega)))
  refine ⟨_, hrun, ⟨⟨rfl, rfl, rfl, by simp [ChangeMaps.setBlock], fun i _ hi => ChangeMaps.heap_setBlock_other hb _ (fun e => hi (by rw [e]))⟩, ⟨es', clock', ChangeMaps.heap_setBlock_same hb _, F', ?_⟩⟩⟩
  intro e he
  rcases hmem e he with ⟨h1', _⟩ | ⟨hk', hv'⟩
  · exact hG e h1'
  · refine ⟨n.toNat, k.toNat, by omega, by omega, ?_, ?_⟩
    · rw [hk']; unfold keyV; simp; omega
    · rw [hv', Pure.sets_some (by omega) (by omega)]

theorem Step.trans {M : Nat} {a b c : World} (h : Step M a b) (k : Step M b c) : Step M a c where
  grown := ⟨k.grown.os.trans h.grown.os, k.grown.tape.trans h.grown.tape, k.grown.output.trans h.grown.output, Nat.le_trans h.grown.size k.grown.size,
    fun i hi hne => (k.grown.block i (Nat.lt_of_lt_of_le hi h.grown.size) hne).trans (h.grown.block i hi hne)⟩
  memo := k.memo
theorem Step.refl {M : Nat} {w : World} (h : Memo w M) : Step M w w := ⟨⟨rfl, rfl, rfl, Nat.le_refl _, fun _ _ _ => rfl⟩, h⟩
theorem Memo.alloc {w : World} {M : Nat} (h : Memo w M) (o : Obj) : Memo (w.alloc o) M := h.kept (Below.heap_alloc _ _ _ h.lt)
theorem Memo.drew {w : World} {M : Nat} (h : Memo w M) : Memo w.drew M := h
theorem Step.alloc {M : Nat} {a b : World} (h : Step M a b) (o : Obj) : Step M a (b.alloc o) := h.trans ⟨World.grownBy_alloc _ _ _, h.memo.alloc o⟩
theorem Step.drew {M : Nat} {a b : World} (h : Step M a b) : Step M a b.drew := ⟨⟨h.grown.os, h.grown.tape, h.grown.output, h.grown.size, h.grown.block⟩, h.memo⟩
/-- A store into a cell of a block that is new since a. -/
theorem Step.setCell {M : Nat} {a b : World} (h : Step M a b) {p : Addr} (hp : a.heap.size ≤ p.block) (hM : M < a.heap.size) (u : Value) : Step M a (b.setCell p u) where
  grown := ⟨h.grown.os, h.grown.tape, h.grown.output, by simpa [World.setCell] using h.grown.size,
    fun i hi hne => (Below.heap_setCell _ _ _ _ (by omega)).trans (h.grown.block i hi hne)⟩
  memo := h.memo.kept (Below.heap_setCell _ _ _ _ (by omega))
theorem Step.cell {M : Nat} {w w' : World} (h : Step M w w') {a : Addr} {v : Value} (hc : w.cell? a = some v) (hne : a.block ≠ M) : w'.cell? a = some v :=
  h.grown.cell hc (by simpa using hne)
theorem Step.frozen {M : Nat} {w w' : World} (h : Step M w w') {a : Addr} {v : Value} (hc : w.cell? a = some v) (hne : a.block ≠ M) (hf : w.frozen? a = false) : w'.frozen? a = false :=
  (World.frozen?_of_block (h.grown.block a.block (World.block_lt_of_cell? w a hc) (by simpa using hne))).trans hf
theorem cell_not_map {w : World} {M : Nat} (h : Memo w M) {a : Addr} {v : Value} (hc : w.cell? a = some v) : a.block ≠ M := by
  intro e
  obtain ⟨es, clock, hb, _⟩ := h
  simp [World.cell?, e, hb] at hc

theorem Memo.made (w : World) : Memo (w.alloc (.map #[] 0)) w.heap.size :=
  ⟨#[], 0, (MapKept.heap_alloc w _).1, ⟨by simp, MapKept.stamped_empty 0, by simp⟩, by simp⟩

theorem cell_top (w : World) (v : Value) (t : TypeId) {b : Nat} (hb : b = w.heap.size) : (w.alloc (.cells #[v] t)).cell? ⟨b, 0, none⟩ = some v := by
  subst hb
  have h := (MapKept.heap_alloc w (.cells #[v] t)).1
  unfold World.cell?
  simp only [h]
  rfl
theorem cell_up {w : World} {a : Addr} {v : Value} (h : w.cell? a = some v) (o : Obj) : (w.alloc o).cell? a = some v := (World.cell?_alloc_lt _ _ _ (World.block_lt_of_cell? w _ h)).trans h

theorem below_cell {w w' : World} (h : Below w.heap.size w w') {a : Addr} {v : Value} (hc : w.cell? a = some v) : w'.cell? a = some v := (h.cell (World.block_lt_of_cell? w a hc)).trans hc

theorem ret_int {q : IntKind} {a b : Int} (h : a = b) : Ending.returned (.int q a) = .returned (.int q b) := by rw [h]
theorem ret_bool {a b : Bool} (h : a = b) : Ending.returned (.bool a) = .returned (.bool b) := by rw [h]

/-- A world of a class. -/
structure Among (S : World → Prop) where
  val : World
  ok : S val

theorem among_out {S : World → Prop} {w : World} (h : ∃ x : Among S, w = x.val) : S w := by
  obtain ⟨x, rfl⟩ := h
  exact x.ok

/-- A region that draws its order, whose operations read, and whose calls keep a class of worlds: one walk serves every order. -/
theorem wp_region_class {P : Program} {id : Nat} {Q : Exit → Act → World → Prop} {a : Act} {w : World} {l : List Oper} (S : World → Prop) (hm : P.follows .mixedOrders = true) (hB : Region.lexB .any l.toArray = true) (hS : S w.drew)
    (h : wpQuiet P l.toArray (fun w' => ∃ x : Among S, w' = x.val) (fun a' => ∀ w', (∃ x : Among S, w' = x.val) → Q .normal a' w') l a) : (Code.region id l.toArray true).wp P Q a w :=
  wp_region_quiet (C := fun w' => ∃ x : Among S, w' = x.val) hm hB ⟨⟨_, hS⟩, rfl⟩ (by simpa using h)

/-- A call within such a region. -/
theorem calls_class {P : Program} {f : FuncId} {args : Array Value} {S : World → Prop} {x : Among S} {v : Value} (h : Calls P f args x.val fun e w' => e = .returned v ∧ S w') :
    Calls P f args x.val fun e w'' => e = .returned v ∧ ∃ y : Among S, w'' = y.val :=
  h.mono fun _ w' ⟨he, hs⟩ => ⟨he, ⟨w', hs⟩, rfl⟩

end Go.Proofs.YtjegkkpdemoldaaGreatDoor
