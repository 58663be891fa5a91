/-
  A region that draws its order, walked in the order of its text, whose last operations may write what was read: they wait for all that reads.
-/
import Derived.Test.YtiiekecohmaipaaProg
import Derived.WalkKit
import Derived.OrdersHeld
import Derived.BigFrame
namespace Go.Proofs.Ytiiekecohmaipaa

/-- A slot holds a value. -/
def At (a : Act) (d : Nat) (v : Value) : Prop := a.tmps[d]? = some v
/-- All slots but some are as they were. -/
structure Kept (D : List Nat) (a a' : Act) : Prop where
  size : a'.tmps.size = a.tmps.size
  defers : a'.defers = a.defers
  slot : ∀ i, D.contains i = false → a'.tmps[i]? = a.tmps[i]?
theorem Kept.refl (D : List Nat) (a : Act) : Kept D a a := ⟨rfl, rfl, fun _ _ => rfl⟩
theorem Kept.at {D : List Nat} {a0 a : Act} (hI : Kept D a0 a) {e : Nat} {u : Value} (h : At a0 e u) (hn : D.contains e = false) : At a e u := (hI.slot e hn).trans h
theorem At.eval {a : Act} {d : Nat} {v : Value} (h : At a d v) : a.eval (.tmp d) = v := by
  unfold At at h
  simp [Act.eval, Array.getD_eq_getD_getElem?, h]
theorem wanted_at {ops : Array Oper} {o : Oper} {a : Act} {d j : Nat} {b : Bool} (hg : o.guard = some (j, b)) (hj : (ops[j]?).bind (·.dst) = some d) (h : At a d (.bool b)) : Region.wanted o (yielded ops a.tmps) = true := by
  unfold At at h
  simp [Region.wanted, hg, yielded, hj, h]
theorem wanted_free {o : Oper} (hg : o.guard = none) {y : Nat → Option Bool} : Region.wanted o y = true := by
  simp [Region.wanted, hg]
theorem put_kept {D : List Nat} {a0 a : Act} {d : Nat} {v : Value} (hI : Kept D a0 a) (hm : D.contains d = true) : Kept D a0 (a.put (some d) v) := by
  refine ⟨by rw [← hI.size]; simp [Act.put], hI.defers, fun i hi => ?_⟩
  have hne : d ≠ i := fun e => by rw [e, hi] at hm; cases hm
  rw [← hI.slot i hi]
  simp [Act.put, hne]
theorem put_new {a : Act} {d : Nat} {v : Value} (hz : d < a.tmps.size) : At (a.put (some d) v) d v := by
  unfold At
  simp [Act.put, hz]
theorem put_old {a : Act} {d e : Nat} {u v : Value} (h : At a e u) (hn : (e == d) = false) : At (a.put (some d) v) e u := by
  have hne : d ≠ e := fun x => by rw [x] at hn; simp at hn
  unfold At at *
  simp [Act.put, hne, h]

section
variable {P : Program} {ops : Array Oper} {Q : Exit → Act → World → Prop} {md : Region.Mode} {S : World → Prop} {f : Nat → Bool}
/-- Whatever order is picked from here on; S holds behind every operation but those of f. -/
def wpAnyF (P : Program) (md : Region.Mode) (ops : Array Oper) (Q : Exit → Act → World → Prop) (S : World → Prop) (f : Nat → Bool) : Nat → Array Bool → Act → World → Prop
  | 0, listed, a, w => Region.ready md ops listed = [] ∧ Q .normal a w
  | n + 1, listed, a, w => (Region.ready md ops listed = [] → Q .normal a w) ∧
      ∀ i ∈ Region.ready md ops listed, wpOp P ops Q i (fun a' w' => (f i = false → S w') ∧ wpAnyF P md ops Q S f n (listed.setIfInBounds i true) a' w') a w
theorem wpAny_of_free : ∀ (n : Nat) (listed : Array Bool) (a : Act) (w : World), wpAnyF P md ops Q S f n listed a w → wpAny P md ops Q n listed a w
  | 0, _, _, _, h => h
  | n + 1, _, _, _, h => ⟨h.1, fun i hi => wpOp_mono (fun a' w' h' => wpAny_of_free n _ a' w' h'.2) (h.2 i hi)⟩
/-- What yields in every world of S may be taken first, if what need not keep S waits for it. -/
theorem wpAnyF_first {i : Nat} {oi : Oper} {v : Value} (hi : ops[i]? = some oi) (hsel : ∀ (j : Nat) (o : Oper) cs b, ops[j]? = some o → o.op ≠ .select cs b)
    (hQ : ∀ c a w, Q (.panic c) (a.put oi.dst v) w → Q (.panic c) a w) (hwait : ∀ j oj, f j = true → ops[j]? = some oj → ∃ e ∈ oj.after, Region.binds md e = true ∧ e.on = i) (hisz : i < ops.size) :
    ∀ (n : Nat) (listed : Array Bool) (a : Act) (w : World), listed.size = ops.size →
      (∀ j oj, ops[j]? = some oj → j ≠ i → listed.getD j true = false → (∀ e ∈ oj.after, Region.binds md e = true → e.on ≠ i) → oi.apart ops oj = true) →
      i ∈ Region.ready md ops listed → YieldsIf P ops S oi v a → S w → wpAnyF P md ops Q S f n (listed.setIfInBounds i true) (a.put oi.dst v) w → wpAnyF P md ops Q S f (n + 1) listed a w := by
  intro n
  induction n with
  | zero =>
    intro listed a w _ _ hr hy hS H
    refine ⟨fun h => (by rw [h] at hr; cases hr), fun j hj => ?_⟩
    by_cases hji : j = i
    · subst hji
      exact hy.wpOp hi hS ⟨fun _ => hS, H⟩
    · have := ready_mono hj hji
      rw [H.1] at this
      cases this
  | succ n ih =>
    intro listed a w hn hfree hr hy hS H
    have hun : listed.getD i true = false := (mem_ready.1 hr).1
    have hun' : listed.getD i false = false := by
      rw [Array.getD_eq_getD_getElem?, Array.getElem?_eq_getElem (by omega)] at hun ⊢
      exact hun
    refine ⟨fun h => (by rw [h] at hr; cases hr), fun j hj => ?_⟩
    by_cases hji : j = i
    · subst hji
      exact hy.wpOp hi hS ⟨fun _ => hS, H⟩
    · have h1 := H.2 j (ready_mono hj hji)
      obtain ⟨hjun, oj, hoj, hall⟩ := mem_ready.1 hj
      have hno : ∀ e ∈ oj.after, Region.binds md e = true → e.on ≠ i := fun e he hb heq => by
        have := hall e he hb
        rw [heq, hun'] at this
        cases this
      have hfj : f j = false := by
        cases hfe : f j with
        | false => rfl
        | true =>
          obtain ⟨e, he, hb, heq⟩ := hwait j oj hfe hoj
          exact absurd heq (hno e he hb)
      have h2 := wpOp_putIf hoj (hfree j oj hoj hji hjun hno) (fun cs b => hsel i oi cs b hi) (fun cs b => hsel j oj cs b hoj) hQ hy h1
      have hfree' : ∀ k ok, ops[k]? = some ok → k ≠ i → (listed.setIfInBounds j true).getD k true = false → (∀ e ∈ ok.after, Region.binds md e = true → e.on ≠ i) → oi.apart ops ok = true := fun k ok hk hki hu hq => by
        refine hfree k ok hk hki ?_ hq
        by_cases hjk : j = k
        · subst hjk
          exact hjun
        · rw [getD_set_ne true hjk] at hu
          exact hu
      refine wpOp_mono (fun a' w' h3 => ⟨fun _ => h3.2.1 hfj, ih (listed.setIfInBounds j true) a' w' (by simpa using hn) hfree' (ready_mono hr (Ne.symm hji)) h3.1 (h3.2.1 hfj) ?_⟩) h2
      rw [Array.setIfInBounds_comm _ _ hji]
      exact h3.2.2

/-- What the check asks of an operation: where its value goes, the slots that it looks at, and the operations that it waits for. -/
def digOf (md : Region.Mode) (ops : Array Oper) (o : Oper) : Option Nat × List Nat × List Nat := (o.dst, o.looksAt ops, (o.after.toList.filter (Region.binds md)).map (·.on))
def apartD (x y : Option Nat × List Nat × List Nat) : Bool :=
  (match x.1 with
   | some d => !y.2.1.contains d && y.1 != some d
   | none => true) &&
  (match y.1 with
   | some d => !x.2.1.contains d
   | none => true)
/-- Whether the operations may be walked in this order (each with its kind): 0: taken as it stands; 1: forced; 2: forced, behind all that is taken. -/
def orderF (n : Nat) (ds : List (Option Nat × List Nat × List Nat)) : List (Nat × Nat) → List Nat → Bool
  | [], done => (List.range n).all fun j => done.contains j
  | (i, b) :: l, done =>
    match ds[i]? with
    | none => false
    | some x => decide (i < n) && !done.contains i && x.2.2.all (fun e => done.contains e && decide (e < n)) &&
        ((List.range n).all fun j => j == i || done.contains j || ((ds[j]?).map fun y => if b == 0 then y.2.2.contains i || apartD x y else y.2.2.any fun e => !done.contains e).getD false) &&
        (b != 2 || l.all fun z => z.2 != 0) && orderF n ds l (i :: done)
/-- Whether the last ones wait for all that is taken. -/
def waitF (l : List (Nat × Nat)) (ds : List (Option Nat × List Nat × List Nat)) : Bool := l.all fun z => z.2 != 2 || l.all fun y => y.2 != 0 || ((ds[z.1]?).map fun x => x.2.2.contains y.1).getD false
/-- The walk in that order. -/
def heldF (P : Program) (ops : Array Oper) (Q : Exit → Act → World → Prop) (S : World → Prop) : List (Nat × Nat) → Act → World → Prop
  | [], a, w => Q .normal a w
  | (k, 0) :: l, a, w => ∃ o v, ops[k]? = some o ∧ YieldsIf P ops S o v a ∧ heldF P ops Q S l (a.put o.dst v) w
  | (k, 2) :: l, a, w => wpOp P ops Q k (fun a' w' => heldF P ops Q S l a' w') a w
  | (k, _) :: l, a, w => wpOp P ops Q k (fun a' w' => S w' ∧ heldF P ops Q S l a' w') a w
theorem uptoF_set {listed : Array Bool} {k : Nat} {done : List Nat} (hu : ∀ (d : Bool) j, j < ops.size → listed.getD j d = done.contains j) (hn : listed.size = ops.size) :
    ∀ (d : Bool) j, j < ops.size → (listed.setIfInBounds k true).getD j d = (k :: done).contains j := by
  intro d j hj
  by_cases h : k = j
  · subst h
    simp [Array.getD_eq_getD_getElem?, hn, hj]
  · have := hu d j hj
    rw [Array.getD_eq_getD_getElem?] at this ⊢
    rw [Array.getElem?_setIfInBounds_ne h, this, List.contains_cons]
    simp [Ne.symm h]
theorem heldF_sound (l0 : List (Nat × Nat)) (hs : Region.noSelect ops = true) (hw : waitF l0 (ops.toList.map (digOf md ops)) = true) (hQ : ∀ d v c a w, Q (.panic c) (Act.put a d v) w → Q (.panic c) a w) :
    ∀ (l : List (Nat × Nat)) (done : List Nat) (listed : Array Bool) (a : Act) (w : World), (∀ z ∈ l, z ∈ l0) → orderF ops.size (ops.toList.map (digOf md ops)) l done = true → listed.size = ops.size → (∀ (d : Bool) j, j < ops.size → listed.getD j d = done.contains j) → (l.any (fun z => z.2 == 0) = true → S w) →
      heldF P ops Q S l a w → wpAnyF P md ops Q S (fun j => l0.contains (j, 2)) l.length listed a w := by
  intro l
  induction l with
  | nil =>
    intro done listed a w _ hB hn hu hS h
    refine ⟨List.eq_nil_iff_forall_not_mem.2 fun j hj => ?_, h⟩
    obtain ⟨h1, o, ho, _⟩ := mem_ready.1 hj
    have hj1 := (Array.getElem?_eq_some_iff.1 ho).1
    rw [hu true j hj1] at h1
    have h2 := List.all_eq_true.1 hB j (List.mem_range.2 hj1)
    rw [h2] at h1
    cases h1
  | cons z l ih =>
    intro done listed a w hl hB hn hu hS h
    obtain ⟨k, b⟩ := z
    unfold orderF at hB
    cases hx : (ops.toList.map (digOf md ops))[k]? with
    | none => rw [hx] at hB; cases hB
    | some x =>
    rw [hx] at hB
    simp only [Bool.and_eq_true, decide_eq_true_eq, Bool.not_eq_true'] at hB
    obtain ⟨⟨⟨⟨⟨hk, hun⟩, hB1⟩, hB2⟩, hB4⟩, hB3⟩ := hB
    have ho : ops[k]? = some ops[k] := Array.getElem?_eq_getElem hk
    obtain rfl : x = digOf md ops ops[k] := by
      rw [List.getElem?_map] at hx
      have ho' : ops.toList[k]? = some ops[k] := by simp
      rw [ho'] at hx
      exact (Option.some.inj hx).symm
    have hdig : ∀ (j : Nat) (oj : Oper), ops[j]? = some oj → (ops.toList.map (digOf md ops))[j]? = some (digOf md ops oj) := by
      intro j oj hoj
      have hoj' : ops.toList[j]? = some oj := by simpa using hoj
      rw [List.getElem?_map, hoj']
      rfl
    have hready : k ∈ Region.ready md ops listed := by
      refine mem_ready.2 ⟨by rw [hu true k hk]; exact hun, ops[k], ho, fun e he hb => ?_⟩
      have h1 := List.all_eq_true.1 hB1 e.on (List.mem_map.2 ⟨e, List.mem_filter.2 ⟨by simpa using he, hb⟩, rfl⟩)
      simp only [Bool.and_eq_true, decide_eq_true_eq] at h1
      rw [hu false e.on h1.2]
      exact h1.1
    have hother : ∀ (j : Nat) (oj : Oper), ops[j]? = some oj → j ≠ k → done.contains j = false → (if (b == 0) = true then (digOf md ops oj).2.2.contains k || apartD (digOf md ops ops[k]) (digOf md ops oj) else (digOf md ops oj).2.2.any fun e => !done.contains e) = true := by
      intro j oj hoj hjk hdj
      have hj1 := (Array.getElem?_eq_some_iff.1 hoj).1
      have h1 := List.all_eq_true.1 hB2 j (List.mem_range.2 hj1)
      rw [hdig j oj hoj, hdj, beq_eq_false_iff_ne.2 hjk] at h1
      simpa only [Bool.false_or, Option.map_some, Option.getD_some] using h1
    have hall : b ≠ 0 → ∀ i ∈ Region.ready md ops listed, i = k := by
      intro hb0 i hi
      obtain ⟨h1, oi, hoi, hq⟩ := mem_ready.1 hi
      have hi1 := (Array.getElem?_eq_some_iff.1 hoi).1
      rw [hu true i hi1] at h1
      by_cases hik : i = k
      · exact hik
      · have h3 := hother i oi hoi hik h1
        rw [if_neg (by simpa using hb0)] at h3
        obtain ⟨y, hy, hyk⟩ := List.any_eq_true.1 h3
        simp only [digOf] at hy
        obtain ⟨e, he, rfl⟩ := List.mem_map.1 hy
        have h4 := List.mem_filter.1 he
        have h5 := hq e (by simpa using h4.1) h4.2
        simp only [Bool.not_eq_true'] at hyk
        rcases Nat.lt_or_ge e.on ops.size with h6 | h6
        · rw [hu false e.on h6, hyk] at h5
          cases h5
        · rw [Array.getD_eq_getD_getElem?, Array.getElem?_eq_none (by omega)] at h5
          cases h5
    have hl' : ∀ z ∈ l, z ∈ l0 := fun z hz => hl z (List.mem_cons_of_mem _ hz)
    have hcase : b = 0 ∨ b = 1 ∨ b = 2 ∨ ∃ c, b = c + 3 := by
      rcases b with _ | _ | _ | c
      · exact .inl rfl
      · exact .inr (.inl rfl)
      · exact .inr (.inr (.inl rfl))
      · exact .inr (.inr (.inr ⟨c, rfl⟩))
    rcases hcase with rfl | rfl | rfl | ⟨c, rfl⟩
    · skip
      obtain ⟨o, v, ho', hy, hh⟩ := h
      have hSw := hS (by simp)
      rw [ho] at ho'
      obtain rfl := Option.some.inj ho'
      refine wpAnyF_first ho (Region.noSelect_spec hs) (fun c a w => hQ _ _ c a w) ?_ hk l.length listed a w hn ?_ hready hy hSw (ih (k :: done) _ _ w hl' hB3 (by simp [hn]) (uptoF_set hu hn) (fun _ => hSw) hh)
      · intro j oj hf hoj
        have hf' : (j, 2) ∈ l0 := by simpa using hf
        have h1 := List.all_eq_true.1 hw _ hf'
        simp only [bne_self_eq_false, Bool.false_or] at h1
        have h2 := List.all_eq_true.1 h1 (k, 0) (hl _ List.mem_cons_self)
        simp only [bne_self_eq_false, Bool.false_or] at h2
        rw [hdig j oj hoj] at h2
        simp only [Option.map_some, Option.getD_some, digOf, List.contains_iff_mem] at h2
        obtain ⟨e, he, hek⟩ := List.mem_map.1 h2
        have h4 := List.mem_filter.1 he
        exact ⟨e, by simpa using h4.1, h4.2, hek⟩
      · intro j oj hoj hne hunj hno
        have hj1 := (Array.getElem?_eq_some_iff.1 hoj).1
        rw [hu true j hj1] at hunj
        have h1 := hother j oj hoj hne hunj
        rw [if_pos (by rfl)] at h1
        simp only [Bool.or_eq_true] at h1
        rcases h1 with h1 | h1
        · simp only [digOf, List.contains_iff_mem] at h1
          obtain ⟨e, he, hek⟩ := List.mem_map.1 h1
          have h2 := List.mem_filter.1 he
          exact absurd hek (hno e (by simpa using h2.1) h2.2)
        · exact h1
    · skip
      refine ⟨fun e => (by rw [e] at hready; cases hready), fun i hi => ?_⟩
      obtain rfl := hall (by decide) i hi
      exact wpOp_mono (fun a' w' h' => ⟨fun _ => h'.1, ih (i :: done) _ _ w' hl' hB3 (by simp [hn]) (uptoF_set hu hn) (fun _ => h'.1) h'.2⟩) h
    · skip
      refine ⟨fun e => (by rw [e] at hready; cases hready), fun i hi => ?_⟩
      obtain rfl := hall (by decide) i hi
      have hin : l0.contains (i, 2) = true := by simpa using hl _ List.mem_cons_self
      have hno : l.any (fun z => z.2 == 0) = false := by
        rw [List.any_eq_false]
        intro z hz h0
        have h1 : (l.all fun z => z.2 != 0) = true := by simpa using hB4
        have h2 := List.all_eq_true.1 h1 z hz
        simp at h0 h2
        exact h2 h0
      exact wpOp_mono (fun a' w' h' => ⟨fun e => (by have e2 : l0.contains (i, 2) = false := e; rw [hin] at e2; cases e2), ih (i :: done) _ _ w' hl' hB3 (by simp [hn]) (uptoF_set hu hn) (fun e => (by rw [hno] at e; cases e)) h'⟩) h
    · skip
      refine ⟨fun e => (by rw [e] at hready; cases hready), fun i hi => ?_⟩
      obtain rfl := hall (by omega) i hi
      exact wpOp_mono (fun a' w' h' => ⟨fun _ => h'.1, ih (i :: done) _ _ w' hl' hB3 (by simp [hn]) (uptoF_set hu hn) (fun _ => h'.1) h'.2⟩) h

theorem wp_region_heldF {id : Nat} {a : Act} {w : World} (S : World → Prop) (l : List (Nat × Nat)) (hm : P.follows .mixedOrders = true) (hl : l.length = ops.size) (hs : Region.noSelect ops = true)
    (hw : waitF l (ops.toList.map (digOf .any ops)) = true) (hB : orderF ops.size (ops.toList.map (digOf .any ops)) l [] = true) (hQ : ∀ d v c a w, Q (.panic c) (Act.put a d v) w → Q (.panic c) a w) (hS : S w.drew) (h : heldF P ops Q S l a w.drew) : (Code.region id ops true).wp P Q a w := by
  have := heldF_sound (md := .any) l hs hw hQ l [] (Array.replicate ops.size false) a w.drew (fun _ hz => hz) hB (by simp) (fun d j hj => by simp [Array.getD_eq_getD_getElem?, hj]) (fun _ => hS) h
  rw [hl] at this
  exact wp_region_any hm (wpAny_of_free _ _ _ _ this)

/-! ### The steps of the walk -/
theorem heldF_take {k d : Nat} {o : Oper} {v : Value} {l : List (Nat × Nat)} {D : List Nat} {a0 a : Act} {w : World} (hI : Kept D a0 a) (ho : ops[k]? = some o) (hd : o.dst = some d) (hm : D.contains d = true) (hz : d < a0.tmps.size)
    (hw : Region.wanted o (yielded ops a.tmps) = true) (hr : ∀ z, S z → (execOp a.eval o).run P z = .ok (.value v) z)
    (h : ∀ a', Kept D a0 a' → At a' d v → (∀ e u, At a e u → (e == d) = false → At a' e u) → heldF P ops Q S l a' w) : heldF P ops Q S ((k, 0) :: l) a w :=
  ⟨o, v, ho, .inl ⟨hw, hr⟩, by rw [hd]; exact h _ (put_kept hI hm) (put_new (by rw [hI.size]; exact hz)) fun _ _ g hn => put_old g hn⟩
theorem heldF_value {k d : Nat} {o : Oper} {v : Value} {l : List (Nat × Nat)} {D : List Nat} {a0 a : Act} {w w' : World} (hI : Kept D a0 a) (ho : ops[k]? = some o) (hd : o.dst = some d) (hm : D.contains d = true) (hz : d < a0.tmps.size)
    (hw : Region.wanted o (yielded ops a.tmps) = true) (hr : (execOp a.eval o).run P w = .ok (.value v) w') (hS : S w')
    (h : ∀ a', Kept D a0 a' → At a' d v → (∀ e u, At a e u → (e == d) = false → At a' e u) → heldF P ops Q S l a' w') : heldF P ops Q S ((k, 1) :: l) a w := by
  refine wpOp_step ho fun K hK => ?_
  rw [if_pos hw]
  unfold Oper.wp
  rw [hr, Oper.upon_value, hd]
  exact hK _ _ ⟨hS, h _ (put_kept hI hm) (put_new (by rw [hI.size]; exact hz)) fun _ _ g hn => put_old g hn⟩
theorem heldF_call {k d : Nat} {o : Oper} {f : FuncId} {args : Array Value} {R : Value → World → Prop} {l : List (Nat × Nat)} {D : List Nat} {a0 a : Act} {w : World} (hI : Kept D a0 a) (ho : ops[k]? = some o) (hd : o.dst = some d) (hm : D.contains d = true) (hz : d < a0.tmps.size)
    (hw : Region.wanted o (yielded ops a.tmps) = true) (hc : Calls P f args w fun e w' => ∃ v, e = .returned v ∧ R v w') (hr : (execOp a.eval o).run P w = .ok (.enter f args) w) (hS : ∀ v w', R v w' → S w')
    (h : ∀ v w' a', R v w' → Kept D a0 a' → At a' d v → (∀ e u, At a e u → (e == d) = false → At a' e u) → heldF P ops Q S l a' w') : heldF P ops Q S ((k, 1) :: l) a w := by
  refine wpOp_step ho fun K hK => ?_
  rw [if_pos hw]
  unfold Oper.wp
  rw [hr, Oper.upon_enter]
  refine hc.mono ?_
  rintro e w' ⟨v, rfl, hR⟩
  dsimp only
  rw [hd]
  exact hK _ _ ⟨hS v w' hR, h _ _ _ hR (put_kept hI hm) (put_new (by rw [hI.size]; exact hz)) fun _ _ g hn => put_old g hn⟩
/-- A store, behind all that is taken. -/
theorem heldF_store {k : Nat} {o : Oper} {l : List (Nat × Nat)} {a : Act} {w w' : World} (ho : ops[k]? = some o) (hd : o.dst = none) (hw : Region.wanted o (yielded ops a.tmps) = true) (hr : (execOp a.eval o).run P w = .ok .skip w')
    (h : heldF P ops Q S l a w') : heldF P ops Q S ((k, 2) :: l) a w := by
  refine wpOp_step ho fun K hK => ?_
  rw [if_pos hw]
  unfold Oper.wp
  rw [hr, Oper.upon_skip, hd]
  exact hK _ _ h
/-- A value, behind all that is taken. -/
theorem heldF_late {k d : Nat} {o : Oper} {v : Value} {l : List (Nat × Nat)} {D : List Nat} {a0 a : Act} {w w' : World} (hI : Kept D a0 a) (ho : ops[k]? = some o) (hd : o.dst = some d) (hm : D.contains d = true) (hz : d < a0.tmps.size)
    (hw : Region.wanted o (yielded ops a.tmps) = true) (hr : (execOp a.eval o).run P w = .ok (.value v) w')
    (h : ∀ a', Kept D a0 a' → At a' d v → (∀ e u, At a e u → (e == d) = false → At a' e u) → heldF P ops Q S l a' w') : heldF P ops Q S ((k, 2) :: l) a w := by
  refine wpOp_step ho fun K hK => ?_
  rw [if_pos hw]
  unfold Oper.wp
  rw [hr, Oper.upon_value, hd]
  exact hK _ _ (h _ (put_kept hI hm) (put_new (by rw [hI.size]; exact hz)) fun _ _ g hn => put_old g hn)
theorem heldF_done {a : Act} {w : World} (h : Q .normal a w) : heldF P ops Q S [] a w := h
/-- What a panic asks does not lean on the frame. -/
theorem with_pan {c : Code} {a : Act} {w : World} (hQ : ∀ d v c a w, Q (.panic c) (Act.put a d v) w → Q (.panic c) a w) (h : (∀ d v c a w, Q (.panic c) (Act.put a d v) w → Q (.panic c) a w) → c.wp P Q a w) : c.wp P Q a w := h hQ
end

/-- A frame whose slots but some are as another one's. -/
theorem Kept.eq {D : List Nat} {a a' : Act} (h : Kept D a a') : a' = ⟨((List.range a.tmps.size).map fun i => if D.contains i then a'.tmps.getD i undef else a.tmps.getD i undef).toArray, a.defers⟩ := by
  obtain ⟨t', d'⟩ := a'
  have h1 := h.size
  have h2 := h.defers
  have h3 := h.slot
  simp only at h1 h2 h3
  subst h2
  congr 1
  apply Array.ext
  · simp [h1]
  · intro i hi hi'
    simp only [List.getElem_toArray, List.getElem_map, List.getElem_range]
    by_cases hD : D.contains i = true
    · rw [if_pos hD, Array.getD_eq_getD_getElem?, Array.getElem?_eq_getElem hi]
      rfl
    · rw [if_neg hD]
      have := h3 i (by simpa using hD)
      rw [Array.getElem?_eq_getElem hi] at this
      rw [Array.getD_eq_getD_getElem?, ← this]
      rfl

end Go.Proofs.Ytiiekecohmaipaa
