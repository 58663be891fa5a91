/-
  A region that draws its order, walked in the order of its text: what yields in every world that meets a condition may come at any point; each other operation is forced. One closed check serves the whole region.
  A region that draws its order, walked in the order of its text over a frame that is a variable: what is known of it is said slot by slot, so that a step costs as much in a frame of 400 slots as in one of ten.
  The text of the error 10, and one closed law of Kept.
-/
import Derived.Test.YtjegkkpdemoldaaGreatDoorProg
import Derived.WalkKit
import Derived.OrdersHeld
import Derived.BigFrame
import Derived.Laws.EntriesVeiled
import Derived.WalkLawsBesides

namespace Go.Proofs.YtjegkkpdemoldaaGreatDoor

section
variable {P : Program} {ops : Array Oper} {Q : Exit → Act → World → Prop} {md : Region.Mode} {S : World → Prop}

/-- Which operations may be taken as they stand (true), and which are forced (false). -/
def heldB (md : Region.Mode) (ops : Array Oper) : List Bool → Nat → Array Bool → Bool
  | [], _, listed => (Region.ready md ops listed).isEmpty
  | true :: l, k, listed => (Region.ready md ops listed).contains k && Region.free md ops listed k && heldB md ops l (k + 1) (listed.setIfInBounds k true)
  | false :: l, k, listed => decide (Region.ready md ops listed = [k]) && heldB md ops l (k + 1) (listed.setIfInBounds k true)
/-- The walk in the order of the text. -/
def heldW (P : Program) (ops : Array Oper) (Q : Exit → Act → World → Prop) (S : World → Prop) : List Bool → Nat → Act → World → Prop
  | [], _, a, w => Q .normal a w
  | true :: l, k, a, w => ∃ o v, ops[k]? = some o ∧ YieldsIf P ops S o v a ∧ heldW P ops Q S l (k + 1) (a.put o.dst v) w
  | false :: l, k, a, w => wpOp P ops Q k (fun a' w' => S w' ∧ heldW P ops Q S l (k + 1) a' w') a w

theorem heldW_sound (hs : Region.noSelect ops = true) (hQ : ∀ d v c a w, Q (.panic c) (Act.put a d v) w → Q (.panic c) a w) :
    ∀ (l : List Bool) (k : Nat) (listed : Array Bool) (a : Act) (w : World), heldB md ops l k listed = true → S w → heldW P ops Q S l k a w → wpAnyH P md ops Q S l.length listed a w
  | [], _, listed, a, w, hB, _, h => ⟨by simpa [heldB] using hB, h⟩
  | true :: l, k, listed, a, w, hB, hS, h => by
    simp only [heldB, Bool.and_eq_true] at hB
    obtain ⟨o, v, ho, hy, h⟩ := h
    exact wpAnyH_take ho hs hB.1.2 hB.1.1 (fun c a w => hQ _ _ c a w) hy hS (heldW_sound hs hQ l (k + 1) _ _ w hB.2 hS h)
  | false :: l, k, listed, a, w, hB, _, h => by
    simp only [heldB, Bool.and_eq_true, decide_eq_true_eq] at hB
    refine wpAnyH_all hB.1 (by simp) (fun i hi => ?_)
    obtain rfl : i = k := by simpa using hi
    exact wpOp_mono (fun a' w' h' => ⟨h'.1, heldW_sound hs hQ l (i + 1) _ _ w' hB.2 h'.1 h'.2⟩) h

theorem wp_region_heldW {id : Nat} {a : Act} {w : World} (S : World → Prop) (l : List Bool) (hm : P.follows .mixedOrders = true) (hl : l.length = ops.size) (hs : Region.noSelect ops = true)
    (hB : heldB .any ops l 0 (Array.replicate ops.size false) = true) (hQ : ∀ d v c a w, Q (.panic c) (Act.put a d v) w → Q (.panic c) a w) (hS : S w.drew) (h : heldW P ops Q S l 0 a w.drew) : (Code.region id ops true).wp P Q a w := by
  have := heldW_sound hs hQ l 0 _ a w.drew hB hS h
  rw [hl] at this
  exact wp_region_held hm this

theorem heldW_take {k : Nat} {o : Oper} {d : Option Tmp} {v : Value} {l : List Bool} {a : Act} {w : World} (ho : ops[k]? = some o) (hd : o.dst = d) (hy : YieldsIf P ops S o v a) (h : heldW P ops Q S l (k + 1) (a.put d v) w) : heldW P ops Q S (true :: l) k a w := by
  subst hd
  exact ⟨o, v, ho, hy, h⟩
theorem heldW_step {k : Nat} {o : Oper} {l : List Bool} {a : Act} {w : World} (ho : ops[k]? = some o)
    (h : ∀ K : Act → World → Prop, (∀ a w, (S w ∧ heldW P ops Q S l (k + 1) a w) → K a w) → if Region.wanted o (yielded ops a.tmps) = true then Oper.wp P o a w K Q else K (a.put o.dst undef) w) : heldW P ops Q S (false :: l) k a w :=
  wpOp_step ho h
theorem heldW_done {k : Nat} {a : Act} {w : World} (h : Q .normal a w) : heldW P ops Q S [] k a w := h
end

end Go.Proofs.YtjegkkpdemoldaaGreatDoor

namespace Go.Proofs.YtjegkkpdemoldaaGreatDoor

/-- A slot holds a value. -/
def At (a : Act) (d : Nat) (v : Value) : Prop := a.tmps[d]? = some v
/-- All slots but some are as they were. -/
structure Kept (D : List Nat) (a a' : Act) : Prop where
  size : a'.tmps.size = a.tmps.size
  defers : a'.defers = a.defers
  slot : ∀ i, D.contains i = false → a'.tmps[i]? = a.tmps[i]?
theorem Kept.refl (D : List Nat) (a : Act) : Kept D a a := ⟨rfl, rfl, fun _ _ => rfl⟩
theorem At.eval {a : Act} {d : Nat} {v : Value} (h : At a d v) : a.eval (.tmp d) = v := by
  unfold At at h
  simp [Act.eval, Array.getD_eq_getD_getElem?, h]
theorem wanted_at {ops : Array Oper} {o : Oper} {a : Act} {d j : Nat} {b : Bool} (hg : o.guard = some (j, b)) (hj : (ops[j]?).bind (·.dst) = some d) (h : At a d (.bool b)) : Region.wanted o (yielded ops a.tmps) = true := by
  unfold At at h
  simp [Region.wanted, hg, yielded, hj, h]
theorem wanted_free {o : Oper} (hg : o.guard = none) {y : Nat → Option Bool} : Region.wanted o y = true := by
  simp [Region.wanted, hg]
theorem put_kept {D : List Nat} {a0 a : Act} {d : Nat} {v : Value} (hI : Kept D a0 a) (hm : D.contains d = true) : Kept D a0 (a.put (some d) v) := by
  refine ⟨by rw [← hI.size]; simp [Act.put], hI.defers, fun i hi => ?_⟩
  have hne : d ≠ i := fun e => by rw [e, hi] at hm; cases hm
  rw [← hI.slot i hi]
  simp [Act.put, hne]
theorem put_new {a : Act} {d : Nat} {v : Value} (hz : d < a.tmps.size) : At (a.put (some d) v) d v := by
  unfold At
  simp [Act.put, hz]
theorem put_old {a : Act} {d e : Nat} {u v : Value} (h : At a e u) (hn : (e == d) = false) : At (a.put (some d) v) e u := by
  have hne : d ≠ e := fun x => by rw [x] at hn; simp at hn
  unfold At at *
  simp [Act.put, hne, h]

section
variable {P : Program} {ops : Array Oper} {Q : Exit → Act → World → Prop} {S : World → Prop}
theorem heldA_take {k : Nat} {o : Oper} {d : Nat} {v : Value} {l : List Bool} {D : List Nat} {a0 a : Act} {w : World} (hI : Kept D a0 a) (ho : ops[k]? = some o) (hd : o.dst = some d) (hm : D.contains d = true) (hz : d < a0.tmps.size)
    (hw : Region.wanted o (yielded ops a.tmps) = true) (hr : ∀ z, S z → (execOp a.eval o).run P z = .ok (.value v) z)
    (h : ∀ a', Kept D a0 a' → At a' d v → (∀ e u, At a e u → (e == d) = false → At a' e u) → heldW P ops Q S l (k + 1) a' w) : heldW P ops Q S (true :: l) k a w :=
  heldW_take ho hd (.inl ⟨hw, hr⟩) (h _ (put_kept hI hm) (put_new (by rw [hI.size]; exact hz)) fun _ _ g hn => put_old g hn)
theorem heldA_value {k : Nat} {o : Oper} {d : Nat} {v : Value} {l : List Bool} {D : List Nat} {a0 a : Act} {w w' : World} (hI : Kept D a0 a) (ho : ops[k]? = some o) (hd : o.dst = some d) (hm : D.contains d = true) (hz : d < a0.tmps.size)
    (hw : Region.wanted o (yielded ops a.tmps) = true) (hr : (execOp a.eval o).run P w = .ok (.value v) w') (hS : S w')
    (h : ∀ a', Kept D a0 a' → At a' d v → (∀ e u, At a e u → (e == d) = false → At a' e u) → heldW P ops Q S l (k + 1) a' w') : heldW P ops Q S (false :: l) k a w := by
  refine heldW_step ho fun K hK => ?_
  rw [if_pos hw]
  unfold Oper.wp
  rw [hr, Oper.upon_value, hd]
  exact hK _ _ ⟨hS, h _ (put_kept hI hm) (put_new (by rw [hI.size]; exact hz)) fun _ _ g hn => put_old g hn⟩
theorem heldA_call {k : Nat} {o : Oper} {d : Nat} {v : Value} {f : FuncId} {args : Array Value} {R : World → Prop} {l : List Bool} {D : List Nat} {a0 a : Act} {w : World} (hI : Kept D a0 a) (ho : ops[k]? = some o) (hd : o.dst = some d) (hm : D.contains d = true) (hz : d < a0.tmps.size)
    (hw : Region.wanted o (yielded ops a.tmps) = true) (hc : Calls P f args w fun e w' => e = .returned v ∧ R w') (hr : (execOp a.eval o).run P w = .ok (.enter f args) w) (hS : ∀ w', R w' → S w')
    (h : ∀ w' a', R w' → Kept D a0 a' → At a' d v → (∀ e u, At a e u → (e == d) = false → At a' e u) → heldW P ops Q S l (k + 1) a' w') : heldW P ops Q S (false :: l) k a w := by
  refine heldW_step ho fun K hK => ?_
  rw [if_pos hw]
  unfold Oper.wp
  rw [hr, Oper.upon_enter]
  refine hc.mono ?_
  rintro e w' ⟨rfl, hR⟩
  dsimp only
  rw [hd]
  exact hK _ _ ⟨hS w' hR, h _ _ hR (put_kept hI hm) (put_new (by rw [hI.size]; exact hz)) fun _ _ g hn => put_old g hn⟩
end

/-- What a region's check asks of an operation: where its value goes, the slots that it looks at, and the operations that it waits for. -/
def digOf (md : Region.Mode) (ops : Array Oper) (o : Oper) : Option Nat × List Nat × List Nat := (o.dst, o.looksAt ops, (o.after.toList.filter (Region.binds md)).map (·.on))
def apartD (x y : Option Nat × List Nat × List Nat) : Bool :=
  (match x.1 with
   | some d => !y.2.1.contains d && y.1 != some d
   | none => true) &&
  (match y.1 with
   | some d => !x.2.1.contains d
   | none => true)
/-- Whether the operations of a region may be walked in the order of the text: true: as they stand; false: forced. -/
def textB : List Bool → List (Option Nat × List Nat × List Nat) → Nat → Bool
  | [], [], _ => true
  | b :: bs, x :: xs, k => x.2.2.all (fun e => decide (e < k)) && (xs.all fun y => if b then y.2.2.contains k || apartD x y else y.2.2.any fun e => decide (k ≤ e)) && textB bs xs (k + 1)
  | _, _, _ => false
section
variable {P : Program} {ops : Array Oper} {Q : Exit → Act → World → Prop} {md : Region.Mode} {S : World → Prop}
theorem upto_set {listed : Array Bool} {k : Nat} (hu : ∀ (d : Bool) j, j < ops.size → listed.getD j d = decide (j < k)) (hn : listed.size = ops.size) :
    ∀ (d : Bool) j, j < ops.size → (listed.setIfInBounds k true).getD j d = decide (j < k + 1) := by
  intro d j hj
  by_cases h : k = j
  · subst h
    simp [Array.getD_eq_getD_getElem?, hn, hj]
  · have := hu d j hj
    rw [Array.getD_eq_getD_getElem?] at this ⊢
    rw [Array.getElem?_setIfInBounds_ne h, this, decide_eq_decide]
    omega
theorem heldT_sound (hs : Region.noSelect ops = true) (hQ : ∀ d v c a w, Q (.panic c) (Act.put a d v) w → Q (.panic c) a w) :
    ∀ (l : List Bool) (k : Nat) (listed : Array Bool) (a : Act) (w : World), textB l ((ops.toList.drop k).map (digOf md ops)) k = true → listed.size = ops.size → (∀ (d : Bool) j, j < ops.size → listed.getD j d = decide (j < k)) → S w → heldW P ops Q S l k a w → wpAnyH P md ops Q S l.length listed a w := by
  intro l
  induction l with
  | nil =>
    intro k listed a w hB hn hu hS h
    have hk : ops.size ≤ k := by
      rcases Nat.lt_or_ge k ops.size with h1 | h1
      · rw [List.drop_eq_getElem_cons (by simpa using h1)] at hB
        simp [textB] at hB
      · exact h1
    refine ⟨List.eq_nil_iff_forall_not_mem.2 fun j hj => ?_, h⟩
    obtain ⟨h1, o, ho, _⟩ := mem_ready.1 hj
    have hj1 := (Array.getElem?_eq_some_iff.1 ho).1
    rw [hu true j hj1] at h1
    simp at h1
    omega
  | cons b l ih =>
    intro k listed a w hB hn hu hS h
    have hk : k < ops.size := by
      rcases Nat.lt_or_ge k ops.size with h1 | h1
      · exact h1
      · rw [List.drop_eq_nil_of_le (by simpa using h1)] at hB
        simp [textB] at hB
    rw [List.drop_eq_getElem_cons (by simpa using hk), List.map_cons] at hB
    simp only [textB, Bool.and_eq_true] at hB
    obtain ⟨⟨hB1, hB2⟩, hB3⟩ := hB
    have ho : ops[k]? = some ops[k] := Array.getElem?_eq_getElem hk
    have hready : k ∈ Region.ready md ops listed := by
      refine mem_ready.2 ⟨by rw [hu true k hk]; simp, ops[k], ho, fun e he hb => ?_⟩
      have h1 := List.all_eq_true.1 hB1 e.on (List.mem_map.2 ⟨e, List.mem_filter.2 ⟨by simpa using he, hb⟩, rfl⟩)
      simp only [decide_eq_true_eq] at h1
      rw [hu false e.on (by omega)]
      simpa using h1
    have hlater : ∀ (j : Nat) (oj : Oper), ops[j]? = some oj → k < j → digOf md ops oj ∈ (ops.toList.drop (k + 1)).map (digOf md ops) := by
      intro j oj hoj hkj
      refine List.mem_map.2 ⟨oj, ?_, rfl⟩
      have h1 : (ops.toList.drop (k + 1))[j - (k + 1)]? = some oj := by
        rw [List.getElem?_drop, show k + 1 + (j - (k + 1)) = j by omega]
        simpa using hoj
      exact List.mem_of_getElem? h1
    cases b with
    | true =>
      obtain ⟨o, v, ho', hy, hw⟩ := h
      refine wpAnyH_first ho' (Region.noSelect_spec hs) (fun c a w => hQ _ _ c a w) l.length listed a w ?_ hready hy hS (ih (k + 1) _ _ w hB3 (by simp [hn]) (upto_set hu hn) hS hw)
      intro j oj hoj hne hun hno
      have hj1 := (Array.getElem?_eq_some_iff.1 hoj).1
      rw [hu true j hj1] at hun
      have hkj : k < j := by
        simp at hun
        omega
      have h1 := List.all_eq_true.1 hB2 _ (hlater j oj hoj hkj)
      rw [ho] at ho'
      obtain rfl := Option.some.inj ho'
      simp only [if_true, Bool.or_eq_true] at h1
      rcases h1 with h1 | h1
      · simp only [digOf, List.contains_iff_mem] at h1
        obtain ⟨e, he, hek⟩ := List.mem_map.1 h1
        have h2 := List.mem_filter.1 he
        exact absurd hek (hno e (by simpa using h2.1) h2.2)
      · exact h1
    | false =>
      have hall : ∀ i ∈ Region.ready md ops listed, i = k := by
        intro i hi
        obtain ⟨h1, oi, hoi, hq⟩ := mem_ready.1 hi
        have hi1 := (Array.getElem?_eq_some_iff.1 hoi).1
        rw [hu true i hi1] at h1
        simp at h1
        rcases Nat.eq_or_lt_of_le h1 with h2 | h2
        · exact h2.symm
        · have h3 := List.all_eq_true.1 hB2 _ (hlater i oi hoi h2)
          simp only [Bool.false_eq_true, if_false] at h3
          obtain ⟨x, hx, hxk⟩ := List.any_eq_true.1 h3
          simp only [digOf] at hx
          obtain ⟨e, he, rfl⟩ := List.mem_map.1 hx
          have h4 := List.mem_filter.1 he
          have h5 := hq e (by simpa using h4.1) h4.2
          simp only [decide_eq_true_eq] at hxk
          rcases Nat.lt_or_ge e.on ops.size with h6 | h6
          · rw [hu false e.on h6] at h5
            simp at h5
            omega
          · rw [Array.getD_eq_getD_getElem?, Array.getElem?_eq_none (by omega)] at h5
            cases h5
      refine ⟨fun e => (by rw [e] at hready; cases hready), fun i hi => ?_⟩
      obtain rfl := hall i hi
      exact wpOp_mono (fun a' w' h' => ⟨h'.1, ih (i + 1) _ _ w' hB3 (by simp [hn]) (upto_set hu hn) h'.1 h'.2⟩) h
theorem wp_region_heldT {id : Nat} {a : Act} {w : World} (S : World → Prop) (l : List Bool) (hm : P.follows .mixedOrders = true) (hl : l.length = ops.size) (hs : Region.noSelect ops = true)
    (hB : textB l (ops.toList.map (digOf .any ops)) 0 = true) (hQ : ∀ d v c a w, Q (.panic c) (Act.put a d v) w → Q (.panic c) a w) (hS : S w.drew) (h : heldW P ops Q S l 0 a w.drew) : (Code.region id ops true).wp P Q a w := by
  have := heldT_sound (md := .any) hs hQ l 0 (Array.replicate ops.size false) a w.drew (by simpa using hB) (by simp) (fun d j hj => by simp [Array.getD_eq_getD_getElem?, hj]) hS h
  rw [hl] at this
  exact wp_region_held hm this
/-- What a panic asks does not lean on the frame. -/
theorem with_pan {c : Code} {a : Act} {w : World} (hQ : ∀ d v c a w, Q (.panic c) (Act.put a d v) w → Q (.panic c) a w) (h : (∀ d v c a w, Q (.panic c) (Act.put a d v) w → Q (.panic c) a w) → c.wp P Q a w) : c.wp P Q a w := h hQ
end

/-- A frame whose slots but some are as another one's. -/
theorem Kept.eq {D : List Nat} {a a' : Act} (h : Kept D a a') : a' = ⟨((List.range a.tmps.size).map fun i => if D.contains i then a'.tmps.getD i undef else a.tmps.getD i undef).toArray, a.defers⟩ := by
  obtain ⟨t', d'⟩ := a'
  have h1 := h.size
  have h2 := h.defers
  have h3 := h.slot
  simp only at h1 h2 h3
  subst h2
  congr 1
  apply Array.ext
  · simp [h1]
  · intro i hi hi'
    simp only [List.getElem_toArray, List.getElem_map, List.getElem_range]
    by_cases hD : D.contains i = true
    · rw [if_pos hD, Array.getD_eq_getD_getElem?, Array.getElem?_eq_getElem hi]
      rfl
    · rw [if_neg hD]
      have := h3 i (by simpa using hD)
      rw [Array.getElem?_eq_getElem hi] at this
      rw [Array.getD_eq_getD_getElem?, ← this]
      rfl

end Go.Proofs.YtjegkkpdemoldaaGreatDoor

namespace Go.Proofs.YtjegkkpdemoldaaGreatDoor
open Go.RowKit

theorem Kept.at {D : List Nat} {a0 a : Act} (hI : Kept D a0 a) {e : Nat} {u : Value} (h : At a0 e u) (hn : D.contains e = false) : At a e u := (hI.slot e hn).trans h

set_option maxRecDepth 100000 in
set_option maxHeartbeats 2000000 in
theorem small_ten (w : World) : Calls Tryz.prog 100 #[.int .i64 10] w fun e w' => e = .returned (.string ⟨#[49, 48]⟩) ∧ w = w' := by
  go_enter Tryz.func100, Tryz.ntmps100
  go_wp2_with fail
  go_ret
  exact ⟨rfl, rfl⟩
set_option maxRecDepth 100000 in
set_option maxHeartbeats 2000000 in
theorem formatInt_ten (w : World) : Calls Tryz.prog 90 #[.int .i64 10, .int .i64 10] w fun e w' => e = .returned (.string ⟨#[49, 48]⟩) ∧ w = w' := by
  go_enter Tryz.func90, Tryz.ntmps90
  go_wp2_with fail
  refine (small_ten _).mono ?_
  rintro e w' ⟨rfl, rfl⟩
  go_wp2_with fail
  go_ret
  exact ⟨rfl, rfl⟩
theorem itoaIn_ten (w : World) : Calls Tryz.prog 67 #[.int .i64 10] w fun e w' => e = .returned (.string ⟨#[49, 48]⟩) ∧ w = w' := by
  go_enter Tryz.func67, Tryz.ntmps67
  go_wp2_with fail
  refine (formatInt_ten _).mono ?_
  rintro e w' ⟨rfl, rfl⟩
  go_wp2_with fail
  go_ret
  exact ⟨rfl, rfl⟩
theorem itoa_ten (w : World) : Calls Tryz.prog 30 #[.int .i64 10] w fun e w' => e = .returned (.string ⟨#[49, 48]⟩) ∧ w = w' := by
  go_enter Tryz.func30, Tryz.ntmps30
  go_wp2_with fail
  refine (itoaIn_ten _).mono ?_
  rintro e w' ⟨rfl, rfl⟩
  go_wp2_with fail
  go_ret
  exact ⟨rfl, rfl⟩
/-- The text of an error. -/
theorem error_any (w : World) : Calls Tryz.prog 4 #[.int .i64 10] w fun e w' => e = .returned (.string ⟨#[101, 114, 114, 111, 114, 32, 49, 48]⟩) ∧ w = w' := by
  go_enter Tryz.func4, Tryz.ntmps4
  go_wp2_with fail
  refine (itoa_ten _).mono ?_
  rintro e w' ⟨rfl, rfl⟩
  go_wp2_with fail
  go_ret
  exact ⟨rfl, rfl⟩

end Go.Proofs.YtjegkkpdemoldaaGreatDoor
