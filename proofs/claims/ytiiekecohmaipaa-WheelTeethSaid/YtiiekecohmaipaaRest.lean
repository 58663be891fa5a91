/-
  A region that draws its order, walked step by step: what only reads is taken as it stands, what is the only one left is forced, and where several are left each is followed.
-/
import Derived.Test.YtiiekecohmaipaaHeldF
namespace Go.Proofs.Ytiiekecohmaipaa

/-- Which operations are done. -/
def litOf (n : Nat) (done : List Nat) : Array Bool := ((List.range n).map fun j => done.contains j).toArray
theorem litOf_size (n : Nat) (done : List Nat) : (litOf n done).size = n := by simp [litOf]
theorem litOf_getD {n : Nat} {done : List Nat} (d : Bool) {j : Nat} (hj : j < n) : (litOf n done).getD j d = done.contains j := by
  simp [litOf, Array.getD_eq_getD_getElem?, hj]
theorem litOf_set (n : Nat) (done : List Nat) (k : Nat) : (litOf n done).setIfInBounds k true = litOf n (k :: done) := by
  apply Array.ext
  · simp [litOf]
  · intro i h1 h2
    have hi : i < n := by simpa [litOf] using h2
    by_cases h : k = i
    · subst h
      simp [litOf]
    · rw [Array.getElem_setIfInBounds_ne (by simpa [litOf] using hi) h]
      simp [litOf, Ne.symm h]
theorem litOf_nil (n : Nat) : litOf n [] = Array.replicate n false := by
  apply Array.ext
  · simp [litOf]
  · intro i h1 h2
    simp [litOf]
theorem litOf_same {n : Nat} {d d' : List Nat} (h : ((List.range n).all fun j => d.contains j == d'.contains j) = true) : litOf n d = litOf n d' := by
  unfold litOf
  congr 1
  apply List.map_congr_left
  intro j hj
  have := List.all_eq_true.1 h j hj
  simpa using this

section
variable {P : Program} {ops : Array Oper} {Q : Exit → Act → World → Prop} {S : World → Prop}
/-- What is left of the region, n operations: whatever order is picked from here on. -/
def Rest (P : Program) (ops : Array Oper) (Q : Exit → Act → World → Prop) (S : World → Prop) (n : Nat) (done : List Nat) (a : Act) (w : World) : Prop := wpAnyF P .any ops Q S (fun _ => false) n (litOf ops.size done) a w
theorem Rest.same {n : Nat} {d d' : List Nat} {a : Act} {w : World} (h : Rest P ops Q S n d' a w) (hs : ((List.range ops.size).all fun j => d.contains j == d'.contains j) = true) : Rest P ops Q S n d a w := by
  unfold Rest
  rw [litOf_same hs]
  exact h
theorem wp_region_rest {id : Nat} {a : Act} {w : World} (S : World → Prop) (hm : P.follows .mixedOrders = true) (h : Rest P ops Q S ops.size [] a w.drew) : (Code.region id ops true).wp P Q a w := by
  unfold Rest at h
  rw [litOf_nil] at h
  exact wp_region_any hm (wpAny_of_free _ _ _ _ h)
def takeOk (n : Nat) (ds : List (Option Nat × List Nat × List Nat)) (i : Nat) (done : List Nat) : Bool :=
  match ds[i]? with
  | none => false
  | some x => decide (i < n) && !done.contains i && x.2.2.all (fun e => done.contains e && decide (e < n)) &&
      (List.range n).all fun j => j == i || done.contains j || ((ds[j]?).map fun y => y.2.2.contains i || apartD x y).getD false
theorem rest_first {n i : Nat} {o : Oper} {v : Value} {done : List Nat} {a : Act} {w : World} (hs : Region.noSelect ops = true) (hQ : ∀ d v c a w, Q (.panic c) (Act.put a d v) w → Q (.panic c) a w) (hB : takeOk ops.size (ops.toList.map (digOf .any ops)) i done = true)
    (ho : ops[i]? = some o) (hy : YieldsIf P ops S o v a) (hS : S w) (h : Rest P ops Q S n (i :: done) (a.put o.dst v) w) : Rest P ops Q S (n + 1) done a w := by
  unfold takeOk at hB
  cases hx : (ops.toList.map (digOf .any ops))[i]? with
  | none => rw [hx] at hB; cases hB
  | some x =>
  rw [hx] at hB
  simp only [Bool.and_eq_true, decide_eq_true_eq, Bool.not_eq_true'] at hB
  obtain ⟨⟨⟨hk, hun⟩, hB1⟩, hB2⟩ := hB
  have ho' : ops[i]? = some ops[i] := Array.getElem?_eq_getElem hk
  obtain rfl : ops[i] = o := Option.some.inj (ho'.symm.trans ho)
  obtain rfl : x = digOf .any ops ops[i] := by
    rw [List.getElem?_map] at hx
    have ho2 : ops.toList[i]? = some ops[i] := by simp
    rw [ho2] at hx
    exact (Option.some.inj hx).symm
  have hdig : ∀ (j : Nat) (oj : Oper), ops[j]? = some oj → (ops.toList.map (digOf .any ops))[j]? = some (digOf .any ops oj) := by
    intro j oj hoj
    have hoj' : ops.toList[j]? = some oj := by simpa using hoj
    rw [List.getElem?_map, hoj']
    rfl
  have hready : i ∈ Region.ready .any ops (litOf ops.size done) := by
    refine mem_ready.2 ⟨by rw [litOf_getD _ hk]; exact hun, ops[i], ho', fun e he hb => ?_⟩
    have h1 := List.all_eq_true.1 hB1 e.on (List.mem_map.2 ⟨e, List.mem_filter.2 ⟨by simpa using he, hb⟩, rfl⟩)
    simp only [Bool.and_eq_true, decide_eq_true_eq] at h1
    rw [litOf_getD _ h1.2]
    exact h1.1
  refine wpAnyF_first ho (Region.noSelect_spec hs) (fun c a w => hQ _ _ c a w) (fun j oj hf => by cases hf) hk n (litOf ops.size done) a w (litOf_size _ _) ?_ hready hy hS (by rw [litOf_set]; exact h)
  intro j oj hoj hne hunj hno
  have hj1 := (Array.getElem?_eq_some_iff.1 hoj).1
  rw [litOf_getD _ hj1] at hunj
  have h1 := List.all_eq_true.1 hB2 j (List.mem_range.2 hj1)
  rw [hdig j oj hoj, hunj, beq_eq_false_iff_ne.2 hne] at h1
  simp only [Bool.false_or, Option.map_some, Option.getD_some, Bool.or_eq_true] at h1
  rcases h1 with h1 | h1
  · simp only [digOf, List.contains_iff_mem] at h1
    obtain ⟨e, he, hek⟩ := List.mem_map.1 h1
    have h2 := List.mem_filter.1 he
    exact absurd hek (hno e (by simpa using h2.1) h2.2)
  · exact h1
/-- Each that may come next is followed. -/
theorem rest_split {n : Nat} {done : List Nat} {a : Act} {w : World} (rs : List Nat) (hr : Region.ready .any ops (litOf ops.size done) = rs) (hne : rs.isEmpty = false)
    (h : ∀ i, rs.contains i = true → wpOp P ops Q i (fun a' w' => S w' ∧ Rest P ops Q S n (i :: done) a' w') a w) : Rest P ops Q S (n + 1) done a w := by
  subst hr
  refine ⟨fun e => (by rw [e] at hne; cases hne), fun i hi => wpOp_mono (fun a' w' h' => ⟨fun _ => h'.1, ?_⟩) (h i (by simpa using hi))⟩
  rw [litOf_set]
  exact h'.2
theorem rest_done {done : List Nat} {a : Act} {w : World} (hr : Region.ready .any ops (litOf ops.size done) = []) (h : Q .normal a w) : Rest P ops Q S 0 done a w := ⟨hr, h⟩

theorem rest_take {n k d : Nat} {o : Oper} {v : Value} {done D : List Nat} {a0 a : Act} {w : World} (hI : Kept D a0 a) (ho : ops[k]? = some o) (hd : o.dst = some d) (hm : D.contains d = true) (hz : d < a0.tmps.size)
    (hs : Region.noSelect ops = true) (hQ : ∀ d v c a w, Q (.panic c) (Act.put a d v) w → Q (.panic c) a w) (hB : takeOk ops.size (ops.toList.map (digOf .any ops)) k done = true) (hS : S w)
    (hw : Region.wanted o (yielded ops a.tmps) = true) (hr : ∀ z, S z → (execOp a.eval o).run P z = .ok (.value v) z)
    (h : ∀ a', Kept D a0 a' → At a' d v → (∀ e u, At a e u → (e == d) = false → At a' e u) → Rest P ops Q S n (k :: done) a' w) : Rest P ops Q S (n + 1) done a w :=
  rest_first hs hQ hB ho (.inl ⟨hw, hr⟩) hS (by rw [hd]; exact h _ (put_kept hI hm) (put_new (by rw [hI.size]; exact hz)) fun _ _ g hn => put_old g hn)
theorem unwanted_at {o : Oper} {a : Act} {d j : Nat} {b c : Bool} (hg : o.guard = some (j, b)) (hj : (ops[j]?).bind (·.dst) = some d) (h : At a d (.bool c)) (hc : (c == b) = false) : Region.wanted o (yielded ops a.tmps) = false := by
  unfold At at h
  simp [Region.wanted, hg, yielded, hj, h]
  intro e
  subst e
  simp at hc
/-- An operation that isn't wanted. -/
theorem rest_skip {n k d : Nat} {o : Oper} {done D : List Nat} {a0 a : Act} {w : World} (hI : Kept D a0 a) (ho : ops[k]? = some o) (hd : o.dst = some d) (hm : D.contains d = true) (hz : d < a0.tmps.size)
    (hs : Region.noSelect ops = true) (hQ : ∀ d v c a w, Q (.panic c) (Act.put a d v) w → Q (.panic c) a w) (hB : takeOk ops.size (ops.toList.map (digOf .any ops)) k done = true) (hS : S w)
    (hw : Region.wanted o (yielded ops a.tmps) = false)
    (h : ∀ a', Kept D a0 a' → At a' d undef → (∀ e u, At a e u → (e == d) = false → At a' e u) → Rest P ops Q S n (k :: done) a' w) : Rest P ops Q S (n + 1) done a w :=
  rest_first hs hQ hB ho (.inr ⟨hw, rfl⟩) hS (by rw [hd]; exact h _ (put_kept hI hm) (put_new (by rw [hI.size]; exact hz)) fun _ _ g hn => put_old g hn)
theorem op_value {k d : Nat} {o : Oper} {v : Value} {D : List Nat} {a0 a : Act} {w w' : World} {K : Act → World → Prop} (hI : Kept D a0 a) (ho : ops[k]? = some o) (hd : o.dst = some d) (hm : D.contains d = true) (hz : d < a0.tmps.size)
    (hw : Region.wanted o (yielded ops a.tmps) = true) (hr : (execOp a.eval o).run P w = .ok (.value v) w')
    (h : ∀ a', Kept D a0 a' → At a' d v → (∀ e u, At a e u → (e == d) = false → At a' e u) → K a' w') : wpOp P ops Q k K a w := by
  refine wpOp_step ho fun K' hK => ?_
  rw [if_pos hw]
  unfold Oper.wp
  rw [hr, Oper.upon_value, hd]
  exact hK _ _ (h _ (put_kept hI hm) (put_new (by rw [hI.size]; exact hz)) fun _ _ g hn => put_old g hn)
theorem op_call {k d : Nat} {o : Oper} {f : FuncId} {args : Array Value} {R : Value → World → Prop} {D : List Nat} {a0 a : Act} {w : World} {K : Act → World → Prop} (hI : Kept D a0 a) (ho : ops[k]? = some o) (hd : o.dst = some d) (hm : D.contains d = true) (hz : d < a0.tmps.size)
    (hw : Region.wanted o (yielded ops a.tmps) = true) (hc : Calls P f args w fun e w' => ∃ v, e = .returned v ∧ R v w') (hr : (execOp a.eval o).run P w = .ok (.enter f args) w)
    (h : ∀ v w' a', R v w' → Kept D a0 a' → At a' d v → (∀ e u, At a e u → (e == d) = false → At a' e u) → K a' w') : wpOp P ops Q k K a w := by
  refine wpOp_step ho fun K' hK => ?_
  rw [if_pos hw]
  unfold Oper.wp
  rw [hr, Oper.upon_enter]
  refine hc.mono ?_
  rintro e w' ⟨v, rfl, hR⟩
  dsimp only
  rw [hd]
  exact hK _ _ (h _ _ _ hR (put_kept hI hm) (put_new (by rw [hI.size]; exact hz)) fun _ _ g hn => put_old g hn)
theorem op_store {k : Nat} {o : Oper} {a : Act} {w w' : World} {K : Act → World → Prop} (ho : ops[k]? = some o) (hd : o.dst = none) (hw : Region.wanted o (yielded ops a.tmps) = true) (hr : (execOp a.eval o).run P w = .ok .skip w')
    (h : K a w') : wpOp P ops Q k K a w := by
  refine wpOp_step ho fun K' hK => ?_
  rw [if_pos hw]
  unfold Oper.wp
  rw [hr, Oper.upon_skip, hd]
  exact hK _ _ h
/-- The only one that may come next. -/
theorem rest_only {n k : Nat} {done : List Nat} {a : Act} {w : World} (hr : Region.ready .any ops (litOf ops.size done) = [k])
    (h : wpOp P ops Q k (fun a' w' => S w' ∧ Rest P ops Q S n (k :: done) a' w') a w) : Rest P ops Q S (n + 1) done a w :=
  rest_split [k] hr rfl fun i hi => by
    have : i = k := by simpa using hi
    subst this
    exact h
theorem exec_append {o : Oper} {a : Act} {w w' : World} (s x : Operand) (t tn : TypeId) (ho : o.op = .call { callee := .builtin .append, args := #[s, x], argTypes := #[t, tn] }) {vs vx v' : Value} (hs : a.eval s = vs) (hx : a.eval x = vx)
    (hr : (Builtin.append_ #[t, tn] o.type #[vs, vx]).run P w = .ok v' w') : (execOp a.eval o).run P w = .ok (.value v') w' := by
  unfold execOp
  simp only [ho, resolve, invoke, builtin, Sem.run_bind, Sem.run_pure, Result.andThen_ok, List.map_toArray, List.map_cons, List.map_nil, hs, hx, hr]
theorem rest_name {n : Nat} {done : List Nat} {a : Act} {w : World} (h : ∀ R : Nat → List Nat → Act → World → Prop, R = Rest P ops Q S → R n done a w) : Rest P ops Q S n done a w := h _ rfl
end

end Go.Proofs.Ytiiekecohmaipaa
