/-
  A map of the function's own as a set of numbers: made, put into, looked up, struck from, and told to be empty.
-/
import Derived.Test.YtacdbjandcdejaaVCopy
import Derived.Maps.OwnSet
import Derived.Maps.RangeWalk
namespace Go.Proofs.Ytacdbjandcdejaa
open Go.RowKit

theorem zeroBool (w : World) : (zeroValue 4).run Try.prog w = .ok (.bool false) w := by kernel_rfl
theorem keyed : Maps.Keyed Try.prog 3 := Maps.int_keyed Try.underlying3
theorem key_mk {x : Int} (h : (Lit.int .i64 x).wf = true) : keyOf Try.prog 3 (.int .i64 x) = some (.int .i64 x) := Maps.keyOf_int_mk Try.underlying3 h
theorem bool_elem (x : Bool) : plainElem (H := Unit) Try.prog 4 (.bool x) = some (.lit (.bool x), []) := plainElem_bool Try.underlying4 x
theorem bool_elem_any {P : Program} {e : TypeId} (he : P.underlying e = some .bool) {v : Value} {y : Bool} {ps : List MemPlace} (h : plainElem (H := Unit) P e v = some (.lit (.bool y), ps)) : v = .bool y := by
  unfold plainElem at h
  rw [he] at h
  cases v <;> simp at h
  rw [h.1]
theorem bool_elem_inv {v : Value} {y : Bool} {ps : List MemPlace} (h : plainElem (H := Unit) Try.prog 4 v = some (.lit (.bool y), ps)) : v = .bool y := bool_elem_any Try.underlying4 h
/-- Block b is a map of at most n entries: the numbers of which S is so, each with true. -/
def SetAt (w : World) (b n : Nat) (S : Int → Bool) : Prop :=
  ∃ D, w.ownsMap Try.prog 3 (plainElem (H := Unit) Try.prog 4) b n D ∧ ∀ x : Int, (Lit.int .i64 x).wf = true → D.atKey (.int .i64 x) (.lit (.bool false)) = .lit (.bool (S x)) ∧ Maps.has D (.int .i64 x) = S x
theorem SetAt.heap {w w' : World} {b n : Nat} {S : Int → Bool} (h : SetAt w b n S) (hb : w'.heap[b]? = w.heap[b]?) : SetAt w' b n S := by
  obtain ⟨D, ⟨es, c, h1, h2⟩, h3⟩ := h
  exact ⟨D, ⟨es, c, hb.trans h1, h2⟩, h3⟩
theorem SetAt.lt {w : World} {b n : Nat} {S : Int → Bool} (h : SetAt w b n S) : b < w.heap.size := by
  obtain ⟨D, h1, _⟩ := h
  exact h1.lt
theorem set_made (w : World) {b : Nat} (hb : b = w.heap.size) : SetAt (w.alloc (.map #[] 0)) b 0 (fun _ => false) := by
  subst hb
  exact ⟨_, World.ownsMap_made w _ _ _, fun x _ => ⟨rfl, rfl⟩⟩
theorem int_key_ne {x y : Int} (h : x ≠ y) : Lit.int .i64 x ≠ Lit.int .i64 y := fun e => h (by cases e; rfl)
theorem SetAt.put {w : World} {b n : Nat} {S : Int → Bool} (h : SetAt w b n S) (hn : n < maxLen) {y : Int} (hy : (Lit.int .i64 y).wf = true) :
    ∃ w', (Instr.mapUpdate 92 (.map (some b)) (.int .i64 y) (.bool true)).run Try.prog w = .ok () w' ∧ SetAt w' b (n + 1) (fun x => S x || decide (x = y)) ∧ w.grownBy w' (some b) := by
  obtain ⟨D, hD, hS⟩ := h
  obtain ⟨w', h1, h2, h3⟩ := hD.store keyed Try.underlying92 hn (key_mk hy) (bool_elem true)
  refine ⟨w', h1, ⟨_, h2, fun x hx => ?_⟩, h3.grown⟩
  by_cases e : x = y
  · subst e
    rw [Maps.atKey_put_same hD.isMap (by constructor), Maps.has_put_same hD.isMap (by constructor)]
    simp
  · rw [Maps.atKey_put_other (int_key_ne e), Maps.has_put_other (int_key_ne e), (hS x hx).1, (hS x hx).2]
    simp [e]
theorem SetAt.del {w : World} {b n : Nat} {S : Int → Bool} (h : SetAt w b n S) {y : Int} (hy : (Lit.int .i64 y).wf = true) (ty : TypeId) :
    ∃ w', (Builtin.delete_ #[92, 3] ty #[.map (some b), .int .i64 y]).run Try.prog w = .ok (.tuple #[]) w' ∧ SetAt w' b n (fun x => S x && !decide (x = y)) ∧ w.grownBy w' (some b) := by
  obtain ⟨D, hD, hS⟩ := h
  obtain ⟨w', h1, h2, h3⟩ := hD.drop keyed Try.underlying92 (key_mk hy) ty
  refine ⟨w', h1, ⟨_, h2, fun x hx => ?_⟩, h3.grown⟩
  by_cases e : x = y
  · subst e
    rw [Maps.atKey_del_same, Maps.has_del_same]
    simp
  · rw [Maps.atKey_del_other (int_key_ne e), Maps.has_del_other (int_key_ne e), (hS x hx).1, (hS x hx).2]
    simp [e]
theorem SetAt.look {w : World} {b n : Nat} {S : Int → Bool} (h : SetAt w b n S) {y : Int} (hy : (Lit.int .i64 y).wf = true) :
    (Instr.lookup 92 (.map (some b)) (.int .i64 y) false).run Try.prog w = .ok (.bool (S y)) w := by
  obtain ⟨D, hD, hS⟩ := h
  obtain ⟨v, ps, h1, h2⟩ := hD.lookup keyed Try.underlying92 (zeroBool w) (bool_elem false) (key_mk hy)
  rw [(hS y hy).1] at h2
  rw [h1, bool_elem_inv h2]
theorem SetAt.len {w : World} {b n : Nat} {S : Int → Bool} (h : SetAt w b n S) (ty : TypeId) :
    ∃ s : Nat, s ≤ n ∧ (Builtin.len_ #[92] ty #[.map (some b)]).run Try.prog w = .ok (.int .i64 s) w ∧ (s = 0 ↔ ∀ x : Int, (Lit.int .i64 x).wf = true → S x = false) := by
  obtain ⟨D, hD, hS⟩ := h
  refine ⟨_, hD.size_le, hD.len Try.underlying92 ty, fun h0 x hx => ?_, fun hall => ?_⟩
  · rw [← (hS x hx).2]
    obtain ⟨es, rfl⟩ := hD.isMap
    have : es = [] := List.eq_nil_of_length_eq_zero h0
    subst this
    rfl
  · obtain ⟨es, c, h1, F, h3, rfl⟩ := hD
    have hk := Maps.fit_keys F
    cases hes : es.toList with
    | nil => simp [Maps.size]
    | cons p t =>
      exfalso
      rw [hes] at hk
      obtain ⟨v, hv⟩ := hk (WideElems.rg Try.prog 3 (plainElem (H := Unit) Try.prog 4) p) (by simp)
      obtain ⟨x, _, hx, hw⟩ := Maps.keyOf_int_inv Try.underlying3 hv
      have h2 := (hS x hw).2
      rw [hall x hw, hes, List.map_cons, List.foldr_cons, Maps.has_eq, Maps.any_insert, hx] at h2
      simp [WideAt.sameKey_self (show WideAt.IsKeyLit (Lit.int .i64 x) by constructor)] at h2
section
variable (w : World) {ops : Array Oper} {rest : List Oper} {o : Oper} {a : Act} {Q : Exit → Act → World → Prop}
theorem wpList_set_put (hg : o.guard = none) (m x v : Operand) (hop : o.op = Op.mapUpdate 92 m x v) (b n : Nat) (S : Int → Bool) (hm : a.eval m = .map (some b)) (h : SetAt w b n S) (hn : n < maxLen) (y : Int) (hx : a.eval x = .int .i64 y) (hv : a.eval v = .bool true) (hy : (Lit.int .i64 y).wf = true)
    (hK : ∀ w', SetAt w' b (n + 1) (fun x => S x || decide (x = y)) → w.grownBy w' (some b) → wpList Try.prog ops Q rest (a.put o.dst undef) w') : wpList Try.prog ops Q (o :: rest) a w := by
  refine wpList_plain hg fun K' hK' => ?_
  obtain ⟨w', hrun, r1, r2⟩ := h.put hn hy
  unfold Oper.wp
  simp [execOp, hop, hm, hx, hv, hrun, Result.andThen]
  exact hK' _ _ (hK w' r1 r2)
theorem wpList_set_del (hg : o.guard = none) (m x : Operand) (hop : o.op = Op.call { callee := Callee.builtin Builtin.delete, args := #[m, x], argTypes := #[92, 3] }) (b n : Nat) (S : Int → Bool) (hm : a.eval m = .map (some b)) (h : SetAt w b n S) (y : Int) (hx : a.eval x = .int .i64 y) (hy : (Lit.int .i64 y).wf = true)
    (hK : ∀ w', SetAt w' b n (fun x => S x && !decide (x = y)) → w.grownBy w' (some b) → wpList Try.prog ops Q rest (a.put o.dst (.tuple #[])) w') : wpList Try.prog ops Q (o :: rest) a w := by
  refine wpList_plain hg fun K' hK' => ?_
  obtain ⟨w', hrun, r1, r2⟩ := h.del hy o.type
  unfold Oper.wp
  simp [execOp, hop, resolve, invoke, builtin, hm, hx, hrun, Result.andThen]
  exact hK' _ _ (hK w' r1 r2)
theorem wpList_set_len (hg : o.guard = none) (m : Operand) (hop : o.op = Op.call { callee := Callee.builtin Builtin.len, args := #[m], argTypes := #[92] }) (b n : Nat) (S : Int → Bool) (hm : a.eval m = .map (some b)) (h : SetAt w b n S)
    (hK : ∀ s : Nat, s ≤ n → (s = 0 ↔ ∀ x : Int, (Lit.int .i64 x).wf = true → S x = false) → wpList Try.prog ops Q rest (a.put o.dst (.int .i64 s)) w) : wpList Try.prog ops Q (o :: rest) a w := by
  refine wpList_plain hg fun K' hK' => ?_
  obtain ⟨s, h1, hrun, h2⟩ := h.len o.type
  unfold Oper.wp
  simp [execOp, hop, resolve, invoke, builtin, hm, hrun, Result.andThen]
  exact hK' _ _ (hK s h1 h2)
end
end Go.Proofs.Ytacdbjandcdejaa
