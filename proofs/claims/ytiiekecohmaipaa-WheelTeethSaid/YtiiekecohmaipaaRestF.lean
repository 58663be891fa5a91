/-
  What is left of a region that draws its order, where the last operations need not keep what the others rest on.
-/
import Derived.Test.YtiiekecohmaipaaRest
namespace Go.Proofs.Ytiiekecohmaipaa

section
variable {P : Program} {ops : Array Oper} {Q : Exit → Act → World → Prop} {S : World → Prop} {f : Nat → Bool}
/-- What is left of the region, n operations: whatever order is picked from here on. -/
def RestF (P : Program) (ops : Array Oper) (Q : Exit → Act → World → Prop) (S : World → Prop) (f : Nat → Bool) (n : Nat) (done : List Nat) (a : Act) (w : World) : Prop := wpAnyF P .any ops Q S f n (litOf ops.size done) a w
theorem RestF.same {n : Nat} {d d' : List Nat} {a : Act} {w : World} (h : RestF P ops Q S f n d' a w) (hs : ((List.range ops.size).all fun j => d.contains j == d'.contains j) = true) : RestF P ops Q S f n d a w := by
  unfold RestF
  rw [litOf_same hs]
  exact h
theorem wp_region_restF {id : Nat} {a : Act} {w : World} (f : Nat → Bool) (S : World → Prop) (hm : P.follows .mixedOrders = true) (h : RestF P ops Q S f ops.size [] a w.drew) : (Code.region id ops true).wp P Q a w := by
  unfold RestF at h
  rw [litOf_nil] at h
  exact wp_region_any hm (wpAny_of_free _ _ _ _ h)
def takeOkF (f : Nat → Bool) (n : Nat) (ds : List (Option Nat × List Nat × List Nat)) (i : Nat) (done : List Nat) : Bool :=
  takeOk n ds i done && (List.range n).all fun j => !f j || ((ds[j]?).map fun y => y.2.2.contains i).getD false
theorem restF_first {n i : Nat} {o : Oper} {v : Value} {done : List Nat} {a : Act} {w : World} (hs : Region.noSelect ops = true) (hQ : ∀ d v c a w, Q (.panic c) (Act.put a d v) w → Q (.panic c) a w) (hB : takeOkF f ops.size (ops.toList.map (digOf .any ops)) i done = true)
    (ho : ops[i]? = some o) (hy : YieldsIf P ops S o v a) (hS : S w) (h : RestF P ops Q S f n (i :: done) (a.put o.dst v) w) : RestF P ops Q S f (n + 1) done a w := by
  unfold takeOkF at hB
  rw [Bool.and_eq_true] at hB
  obtain ⟨hB, hBf⟩ := hB
  unfold takeOk at hB
  cases hx : (ops.toList.map (digOf .any ops))[i]? with
  | none => rw [hx] at hB; cases hB
  | some x =>
  rw [hx] at hB
  simp only [Bool.and_eq_true, decide_eq_true_eq, Bool.not_eq_true'] at hB
  obtain ⟨⟨⟨hk, hun⟩, hB1⟩, hB2⟩ := hB
  have ho' : ops[i]? = some ops[i] := Array.getElem?_eq_getElem hk
  obtain rfl : ops[i] = o := Option.some.inj (ho'.symm.trans ho)
  obtain rfl : x = digOf .any ops ops[i] := by
    rw [List.getElem?_map] at hx
    have ho2 : ops.toList[i]? = some ops[i] := by simp
    rw [ho2] at hx
    exact (Option.some.inj hx).symm
  have hdig : ∀ (j : Nat) (oj : Oper), ops[j]? = some oj → (ops.toList.map (digOf .any ops))[j]? = some (digOf .any ops oj) := by
    intro j oj hoj
    have hoj' : ops.toList[j]? = some oj := by simpa using hoj
    rw [List.getElem?_map, hoj']
    rfl
  have hready : i ∈ Region.ready .any ops (litOf ops.size done) := by
    refine mem_ready.2 ⟨by rw [litOf_getD _ hk]; exact hun, ops[i], ho', fun e he hb => ?_⟩
    have h1 := List.all_eq_true.1 hB1 e.on (List.mem_map.2 ⟨e, List.mem_filter.2 ⟨by simpa using he, hb⟩, rfl⟩)
    simp only [Bool.and_eq_true, decide_eq_true_eq] at h1
    rw [litOf_getD _ h1.2]
    exact h1.1
  refine wpAnyF_first ho (Region.noSelect_spec hs) (fun c a w => hQ _ _ c a w) (fun j oj hf hoj => by
    have h1 := List.all_eq_true.1 hBf j (List.mem_range.2 (Array.getElem?_eq_some_iff.1 hoj).1)
    rw [hf, hdig j oj hoj] at h1
    simp only [Bool.not_true, Bool.false_or, Option.map_some, Option.getD_some, digOf, List.contains_iff_mem] at h1
    obtain ⟨e, he, hek⟩ := List.mem_map.1 h1
    have h2 := List.mem_filter.1 he
    exact ⟨e, by simpa using h2.1, h2.2, hek⟩) hk n (litOf ops.size done) a w (litOf_size _ _) ?_ hready hy hS (by rw [litOf_set]; exact h)
  intro j oj hoj hne hunj hno
  have hj1 := (Array.getElem?_eq_some_iff.1 hoj).1
  rw [litOf_getD _ hj1] at hunj
  have h1 := List.all_eq_true.1 hB2 j (List.mem_range.2 hj1)
  rw [hdig j oj hoj, hunj, beq_eq_false_iff_ne.2 hne] at h1
  simp only [Bool.false_or, Option.map_some, Option.getD_some, Bool.or_eq_true] at h1
  rcases h1 with h1 | h1
  · simp only [digOf, List.contains_iff_mem] at h1
    obtain ⟨e, he, hek⟩ := List.mem_map.1 h1
    have h2 := List.mem_filter.1 he
    exact absurd hek (hno e (by simpa using h2.1) h2.2)
  · exact h1
/-- Each that may come next is followed. -/
theorem restF_split {n : Nat} {done : List Nat} {a : Act} {w : World} (rs : List Nat) (hr : Region.ready .any ops (litOf ops.size done) = rs) (hne : rs.isEmpty = false)
    (h : ∀ i, rs.contains i = true → wpOp P ops Q i (fun a' w' => (f i = false → S w') ∧ RestF P ops Q S f n (i :: done) a' w') a w) : RestF P ops Q S f (n + 1) done a w := by
  subst hr
  refine ⟨fun e => (by rw [e] at hne; cases hne), fun i hi => wpOp_mono (fun a' w' h' => ⟨h'.1, ?_⟩) (h i (by simpa using hi))⟩
  rw [litOf_set]
  exact h'.2
theorem restF_done {done : List Nat} {a : Act} {w : World} (hr : Region.ready .any ops (litOf ops.size done) = []) (h : Q .normal a w) : RestF P ops Q S f 0 done a w := ⟨hr, h⟩

theorem restF_take {n k d : Nat} {o : Oper} {v : Value} {done D : List Nat} {a0 a : Act} {w : World} (hI : Kept D a0 a) (ho : ops[k]? = some o) (hd : o.dst = some d) (hm : D.contains d = true) (hz : d < a0.tmps.size)
    (hs : Region.noSelect ops = true) (hQ : ∀ d v c a w, Q (.panic c) (Act.put a d v) w → Q (.panic c) a w) (hB : takeOkF f ops.size (ops.toList.map (digOf .any ops)) k done = true) (hS : S w)
    (hw : Region.wanted o (yielded ops a.tmps) = true) (hr : ∀ z, S z → (execOp a.eval o).run P z = .ok (.value v) z)
    (h : ∀ a', Kept D a0 a' → At a' d v → (∀ e u, At a e u → (e == d) = false → At a' e u) → RestF P ops Q S f n (k :: done) a' w) : RestF P ops Q S f (n + 1) done a w :=
  restF_first hs hQ hB ho (.inl ⟨hw, hr⟩) hS (by rw [hd]; exact h _ (put_kept hI hm) (put_new (by rw [hI.size]; exact hz)) fun _ _ g hn => put_old g hn)
/-- The only one that may come next. -/
theorem restF_only {n k : Nat} {done : List Nat} {a : Act} {w : World} (hr : Region.ready .any ops (litOf ops.size done) = [k])
    (h : wpOp P ops Q k (fun a' w' => (f k = false → S w') ∧ RestF P ops Q S f n (k :: done) a' w') a w) : RestF P ops Q S f (n + 1) done a w :=
  restF_split [k] hr rfl fun i hi => by
    have : i = k := by simpa using hi
    subst this
    exact h
end

end Go.Proofs.Ytiiekecohmaipaa
