/-
  A region that draws its order, within a round of a loop over an iterator: what yields in every world that meets a condition is taken first, the only one left is forced, and where several are left each is followed.
-/
import Derived.Test.YtiiekecohmaipaaRest
import Derived.TacticsIn
import Derived.OrdersHeld
import Derived.StillTail
import Derived.OrdersIn
import Derived.RangeFuncNested
import Derived.RangeFuncCalls
namespace Go.Proofs.Ytiiekecohmaipaa
open Go.RowKit

/-- What is carried out at once. -/
def now (o : Oper) : Bool := match o.op with
  | .defer _ => false
  | _ => true
theorem now_spec {o : Oper} (h : now o = true) : ∀ c, o.op ≠ .defer c := fun c e => by
  unfold now at h
  rw [e] at h
  cases h

section
variable {P : Program} {ops : Array Oper} {Q : Exit → Act → World → Prop} {md : Region.Mode} {S : World → Prop} {n l : Nat}

theorem yieldsIf_round {i : Nat} {o : Oper} {v : Value} {a : Act} (hn : now o = true) (hi : ops[i]? = some o) (hy : YieldsIf P ops S o v a) {K : Act → World → Prop} {w : World} (hS : S w) (h : K (a.put o.dst v) w) :
    wpOpIn (Fence.wide.inRound l) n P ops Q i K a w := by
  unfold wpOpIn
  simp only [hi]
  rcases hy with ⟨hw, hv⟩ | ⟨hw, rfl⟩
  · simp only [hw, if_true]
    unfold Oper.wpIn
    refine ⟨fun _ _ => trivial, ?_⟩
    rw [show (Fence.wide.inRound l).round = some l from rfl, Oper.semAt_some l _ _ (now_spec hn), hv w hS]
    exact h
  · simp only [hw, Bool.false_eq_true, if_false]
    exact ⟨fun _ _ => trivial, h⟩

theorem wpOpIn_putIf {j : Nat} {oi oj : Oper} {v : Value} (hnj : now oj = true) (hj : ops[j]? = some oj) (hap : oi.apart ops oj = true)
    (hsi : ∀ cs b, oi.op ≠ .select cs b) (hsj : ∀ cs b, oj.op ≠ .select cs b)
    (hQ : ∀ c a w, Q (.panic c) (a.put oi.dst v) w → Q (.panic c) a w) {K : Act → World → Prop} {a : Act} {w : World}
    (hy : YieldsIf P ops S oi v a) (h : wpOpIn (Fence.wide.inRound l) n P ops Q j K (a.put oi.dst v) w) :
    wpOpIn (Fence.wide.inRound l) n P ops Q j (fun a' w' => YieldsIf P ops S oi v a' ∧ K (a'.put oi.dst v) w') a w := by
  obtain ⟨h1, h2, h3⟩ := Oper.apart_spec hap
  have keep : ∀ (a : Act), YieldsIf P ops S oi v a → ∀ u, YieldsIf P ops S oi v (a.put oj.dst u) := fun a hy u =>
    hy.of_same (execOp_put oi hsi a oj.dst u h3) (wanted_put oi a oj.dst u h3)
  have keepD : ∀ d, YieldsIf P ops S oi v { a with defers := d :: a.defers } := fun d => hy.of_same rfl rfl
  unfold wpOpIn at *
  simp only [hj] at *
  rw [wanted_put oj a oi.dst v h1] at h
  split
  · rename_i hw
    simp only [hw, if_true] at h
    unfold Oper.wpIn at *
    refine ⟨fun _ _ => trivial, ?_⟩
    have h := h.2
    rw [show (Fence.wide.inRound l).round = some l from rfl, Oper.semAt_some l _ _ (now_spec hnj), execOp_put oj hsj a oi.dst v h1] at h
    rw [show (Fence.wide.inRound l).round = some l from rfl, Oper.semAt_some l _ _ (now_spec hnj)]
    generalize (execOp a.eval oj).run P w = r at *
    cases r with
    | ok x w' =>
      cases x <;> simp only [Oper.uponIn] at h ⊢
      case value u => exact ⟨keep a hy u, by rw [← Act.put_comm a v u h2]; exact h⟩
      case skip => exact ⟨keep a hy _, by rw [← Act.put_comm a v undef h2]; exact h⟩
      case defer d =>
        refine ⟨keep _ (keepD d) _, ?_⟩
        rw [← Act.put_comm _ v undef h2, ← Act.put_defers]
        exact h
      case enter f args =>
        refine ⟨h.1, CallsIn.mono h.2 fun e w'' he => ?_⟩
        cases e with
        | returned u => exact ⟨keep a hy u, by rw [← Act.put_comm a v u h2]; exact he⟩
        | panicked c => exact hQ _ _ _ he
        | outgrown => exact he
      case row row args => exact ⟨h.1, RowsIn.mono h.2 fun u w'' he => ⟨keep a hy u, by rw [← Act.put_comm a v u h2]; exact he⟩⟩
      case round l f tmps assign body =>
        refine ⟨h.1, RoundIn.mono h.2 fun e w'' he => ?_⟩
        cases e with
        | returned u => exact ⟨keep a hy u, by rw [← Act.put_comm a v u h2]; exact he⟩
        | panicked c => exact hQ _ _ _ he
        | outgrown => exact he
    | halt x w' =>
      cases x <;> simp only [Oper.uponIn] at h ⊢
      case panic u => exact hQ _ _ _ h
  · rename_i hw
    simp only [hw] at h
    exact ⟨fun _ _ => trivial, keep a hy _, by rw [← Act.put_comm a v undef h2]; exact h.2⟩

/-- What has come up waited for nothing that has not. -/
def closedB (md : Region.Mode) (ops : Array Oper) (listed : Array Bool) : Bool :=
  decide (listed.size = ops.size) && (List.range ops.size).all fun j => !listed.getD j false || ((ops[j]?).map (·.after.all fun e => !Region.binds md e || listed.getD e.on false)).getD true
/-- One waits for another one, at last. -/
def waitsB (md : Region.Mode) (ops : Array Oper) (i : Nat) : Nat → Nat → Bool
  | 0, _ => false
  | f + 1, j => ((ops[j]?).map (·.after.toList.any fun e => Region.binds md e && (decide (e.on = i) || waitsB md ops i f e.on))).getD false
structure Closed2 (md : Region.Mode) (ops : Array Oper) (listed : Array Bool) : Prop where
  size : listed.size = ops.size
  closed : ∀ j oj, ops[j]? = some oj → listed.getD j false = true → ∀ e ∈ oj.after, Region.binds md e = true → listed.getD e.on false = true
theorem closed_of {listed : Array Bool} (h : closedB md ops listed = true) : Closed2 md ops listed := by
  unfold closedB at h
  simp only [Bool.and_eq_true, decide_eq_true_eq, List.all_eq_true, List.mem_range] at h
  refine ⟨h.1, fun j oj ho hl e he hb => ?_⟩
  have hj : j < ops.size := (Array.getElem?_eq_some_iff.1 ho).1
  have h2 := h.2 j hj
  rw [hl, ho] at h2
  simp only [Bool.not_true, Bool.false_or, Option.map_some, Option.getD_some, Array.all_eq_true_iff_forall_mem] at h2
  have h3 := h2 e he
  rw [hb] at h3
  simpa using h3
theorem closed_waits {listed : Array Bool} (hs : Closed2 md ops listed) {i : Nat} : ∀ (f j : Nat), waitsB md ops i f j = true → (∀ o, ops[j]? = some o → ∀ e ∈ o.after, Region.binds md e = true → listed.getD e.on false = true) → listed.getD i false = true := by
  intro f
  induction f with
  | zero => intro j h; exact absurd h (by simp [waitsB])
  | succ f ih =>
    intro j h hall
    unfold waitsB at h
    cases ho : ops[j]? with
    | none => rw [ho] at h; simp at h
    | some o =>
      rw [ho] at h
      simp only [Option.map_some, Option.getD_some, List.any_eq_true] at h
      obtain ⟨e, he, h⟩ := h
      replace he := Array.mem_toList_iff.1 he
      simp only [Bool.and_eq_true, Bool.or_eq_true, decide_eq_true_eq] at h
      obtain ⟨hb, h⟩ := h
      have hl := hall o ho e he hb
      rcases h with rfl | h
      · exact hl
      · exact ih e.on h (fun o' ho' e' he' hb' => hs.closed e.on o' ho' hl e' he' hb')
theorem getD_set_true {listed : Array Bool} {i j : Nat} (h : listed.getD j false = true) : (listed.setIfInBounds i true).getD j false = true := by
  rcases Nat.decEq i j with hne | rfl
  · rw [getD_set_ne false hne]; exact h
  · rcases Nat.lt_or_ge i listed.size with h' | h'
    · simp [h']
    · simp [Array.getElem?_eq_none h'] at h
theorem Closed2.set {listed : Array Bool} (hs : Closed2 md ops listed) {i : Nat} (hi : i ∈ Region.ready md ops listed) : Closed2 md ops (listed.setIfInBounds i true) := by
  refine ⟨by simpa using hs.size, fun j oj ho hl e he hb => getD_set_true ?_⟩
  rcases Nat.decEq i j with hne | rfl
  · rw [getD_set_ne false hne] at hl
    exact hs.closed j oj ho hl e he hb
  · obtain ⟨_, o, ho', hall⟩ := mem_ready.1 hi
    rw [ho] at ho'
    cases ho'
    exact hall e he hb

/-- Whatever order is picked from here on, and S holds behind every operation that is carried out, but for one. -/
def wpAnyInH (l n : Nat) (P : Program) (md : Region.Mode) (ops : Array Oper) (Q : Exit → Act → World → Prop) (S : World → Prop) (last : Nat) : Nat → Array Bool → Act → World → Prop
  | 0, listed, a, w => Region.ready md ops listed = [] ∧ Q .normal a w
  | fuel + 1, listed, a, w =>
    (Region.ready md ops listed = [] → Q .normal a w) ∧
    ∀ i ∈ Region.ready md ops listed, wpOpIn (Fence.wide.inRound l) n P ops Q i (fun a' w' => (i ≠ last → S w') ∧ wpAnyInH l n P md ops Q S last fuel (listed.setIfInBounds i true) a' w') a w

theorem wpAnyIn_of_heldIn {last : Nat} : ∀ (fuel : Nat) (listed : Array Bool) (a : Act) (w : World), wpAnyInH l n P md ops Q S last fuel listed a w → wpAnyIn (Fence.wide.inRound l) n P md ops Q fuel listed a w
  | 0, _, _, _, h => h
  | fuel + 1, _, _, _, h => ⟨h.1, fun i hi => wpOpIn_mono (fun a' w' h' => wpAnyIn_of_heldIn fuel _ a' w' h'.2) (h.2 i hi)⟩

theorem heldIn_first {i last : Nat} {oi : Oper} {v : Value} (hnow : ∀ (j : Nat) (o : Oper), ops[j]? = some o → now o = true) (hi : ops[i]? = some oi) (hsel : ∀ (j : Nat) (o : Oper) cs b, ops[j]? = some o → o.op ≠ .select cs b)
    (hQ : ∀ c a w, Q (.panic c) (a.put oi.dst v) w → Q (.panic c) a w) (hwait : waitsB md ops i ops.size last = true) :
    ∀ (fuel : Nat) (listed : Array Bool) (a : Act) (w : World), Closed2 md ops listed →
      (∀ j oj, ops[j]? = some oj → j ≠ i → listed.getD j true = false → (∀ e ∈ oj.after, Region.binds md e = true → e.on ≠ i) → oi.apart ops oj = true) →
      i ∈ Region.ready md ops listed → YieldsIf P ops S oi v a → S w →
      wpAnyInH l n P md ops Q S last fuel (listed.setIfInBounds i true) (a.put oi.dst v) w → wpAnyInH l n P md ops Q S last (fuel + 1) listed a w := by
  intro fuel
  induction fuel with
  | zero =>
    intro listed a w _ _ hr hy hS H
    refine ⟨fun h => (by rw [h] at hr; cases hr), fun j hj => ?_⟩
    by_cases hji : j = i
    · subst hji; exact yieldsIf_round (hnow _ _ hi) hi hy hS ⟨fun _ => hS, H⟩
    · have := ready_mono hj hji
      rw [H.1] at this
      cases this
  | succ fuel ih =>
    intro listed a w hsh hfree hr hy hS H
    refine ⟨fun h => (by rw [h] at hr; cases hr), fun j hj => ?_⟩
    by_cases hji : j = i
    · subst hji; exact yieldsIf_round (hnow _ _ hi) hi hy hS ⟨fun _ => hS, H⟩
    · have hjl : j ≠ last := fun e => by
        obtain ⟨_, o, ho, hall⟩ := mem_ready.1 hj
        subst e
        have h1 := closed_waits hsh ops.size j hwait (fun o' ho' => by rw [ho] at ho'; cases ho'; exact hall)
        rw [getD_both (mem_ready.1 hr).1] at h1
        cases h1
      have h1 := H.2 j (ready_mono hj hji)
      obtain ⟨hjun, oj, hoj, hall⟩ := mem_ready.1 hj
      have hnot : ∀ e ∈ oj.after, Region.binds md e = true → e.on ≠ i := fun e he hb heq => by
        have h1 := hall e he hb
        have h0 := (mem_ready.1 hr).1
        rw [heq] at h1
        rcases Nat.lt_or_ge i listed.size with h' | h'
        · simp [h'] at h0 h1; rw [h0] at h1; cases h1
        · simp [Array.getElem?_eq_none h'] at h1
      have h2 := wpOpIn_putIf (hnow _ _ hoj) hoj (hfree j oj hoj hji hjun hnot) (fun cs b => hsel i oi cs b hi) (fun cs b => hsel j oj cs b hoj) hQ hy h1
      have hfree' : ∀ k ok, ops[k]? = some ok → k ≠ i → (listed.setIfInBounds j true).getD k true = false →
          (∀ e ∈ ok.after, Region.binds md e = true → e.on ≠ i) → oi.apart ops ok = true := fun k ok hk hki hun hno => by
        refine hfree k ok hk hki ?_ hno
        by_cases hjk : j = k
        · subst hjk; exact hjun
        · rw [getD_set_ne true hjk] at hun; exact hun
      refine wpOpIn_mono (fun a' w' h3 => ⟨h3.2.1, ih (listed.setIfInBounds j true) a' w' (hsh.set hj) hfree' (ready_mono hr (Ne.symm hji)) h3.1 (h3.2.1 hjl) ?_⟩) h2
      rw [Array.setIfInBounds_comm _ _ hji]
      exact h3.2.2

/-- Number i is taken first. -/
theorem heldIn_take {i last : Nat} {oi : Oper} {v : Value} {fuel : Nat} {listed : Array Bool} {a : Act} {w : World} (hnow : ops.toList.all now = true) (hi : ops[i]? = some oi)
    (hs : Region.noSelect ops = true) (hf : Region.free md ops listed i = true) (hr : (Region.ready md ops listed).contains i = true) (hsh : closedB md ops listed = true) (hwait : waitsB md ops i ops.size last = true)
    (hQ : ∀ c a w, Q (.panic c) (a.put oi.dst v) w → Q (.panic c) a w) (hS : S w) (hy : YieldsIf P ops S oi v a)
    (h : wpAnyInH l n P md ops Q S last fuel (listed.setIfInBounds i true) (a.put oi.dst v) w) : wpAnyInH l n P md ops Q S last (fuel + 1) listed a w :=
  heldIn_first (fun j o ho => List.all_eq_true.1 hnow o (Array.mem_toList_iff.2 (Array.mem_of_getElem? ho))) hi (Region.noSelect_spec hs) hQ hwait fuel listed a w (closed_of hsh) (Region.free_spec hi hf) (by simpa using hr) hy hS h

/-- Number i is the only one that may come up. -/
theorem heldIn_step {i last : Nat} {o : Oper} {fuel : Nat} {listed : Array Bool} {a : Act} {w : World} (ho : ops[i]? = some o) (hr : Region.ready md ops listed = [i])
    (h : ∀ K : Act → World → Prop, (∀ a w, (i ≠ last → S w) → wpAnyInH l n P md ops Q S last fuel (listed.setIfInBounds i true) a w → K a w) →
      if Region.wanted o (yielded ops a.tmps) = true then Oper.wpIn (Fence.wide.inRound l) n P o a w K Q else (∀ f, o.about P w a.eval = some f → (Fence.wide.inRound l).fn f) ∧ K (a.put o.dst undef) w) :
    wpAnyInH l n P md ops Q S last (fuel + 1) listed a w :=
  ⟨fun h0 => (by rw [hr] at h0; cases h0), fun j hj => by
    rw [hr] at hj
    have hji : j = i := by simpa using hj
    subst hji
    unfold wpOpIn
    rw [ho]
    exact h _ fun a' w' hs ha => ⟨hs, ha⟩⟩

theorem heldIn_done {last : Nat} {listed : Array Bool} {a : Act} {w : World} (hr : Region.ready md ops listed = []) (h : Q .normal a w) : ∀ fuel, wpAnyInH l n P md ops Q S last fuel listed a w
  | 0 => ⟨hr, h⟩
  | _ + 1 => ⟨fun _ => h, by rw [hr]; simp⟩

theorem wpIn_region_held {id : Nat} {a : Act} {w : World} (S : World → Prop) (last : Nat) (hm : P.follows .mixedOrders = true)
    (h : wpAnyInH l n P .any ops Q S last ops.size (Array.replicate ops.size false) a w.drew) : (Code.region id ops true).wpIn (Fence.wide.inRound l) n P Q a w :=
  wpIn_region_any hm (wpAnyIn_of_heldIn _ _ _ _ h)
end

section
variable {P : Program} {ops : Array Oper} {Q : Exit → Act → World → Prop} {S : World → Prop} {l m last : Nat}
theorem with_panIn {F : Fence} {c : Code} {a : Act} {w : World} (hQ : ∀ d v c a w, Q (.panic c) (Act.put a d v) w → Q (.panic c) a w) (h : (∀ d v c a w, Q (.panic c) (Act.put a d v) w → Q (.panic c) a w) → c.wpIn F m P Q a w) : c.wpIn F m P Q a w := h hQ
/-- What is left of the region within a round. -/
def RestIn (l m : Nat) (P : Program) (ops : Array Oper) (Q : Exit → Act → World → Prop) (S : World → Prop) (last n : Nat) (done : List Nat) (a : Act) (w : World) : Prop := wpAnyInH l m P .any ops Q S last n (litOf ops.size done) a w
theorem wpIn_region_rest {id : Nat} {a : Act} {w : World} (S : World → Prop) (last : Nat) (hm : P.follows .mixedOrders = true) (h : RestIn l m P ops Q S last ops.size [] a w.drew) : (Code.region id ops true).wpIn (Fence.wide.inRound l) m P Q a w := by
  unfold RestIn at h
  rw [litOf_nil] at h
  exact wpIn_region_held S last hm h
theorem restIn_take {n k d : Nat} {o : Oper} {v : Value} {done D : List Nat} {a0 a : Act} {w : World} (hI : Kept D a0 a) (ho : ops[k]? = some o) (hd : o.dst = some d) (hm : D.contains d = true) (hz : d < a0.tmps.size)
    (hnow : ops.toList.all now = true) (hs : Region.noSelect ops = true) (hf : Region.free .any ops (litOf ops.size done) k = true) (hc : (Region.ready .any ops (litOf ops.size done)).contains k = true) (hsh : closedB .any ops (litOf ops.size done) = true)
    (hwait : waitsB .any ops k ops.size last = true) (hQ : ∀ d v c a w, Q (.panic c) (Act.put a d v) w → Q (.panic c) a w) (hS : S w) (hw : Region.wanted o (yielded ops a.tmps) = true) (hr : ∀ z, S z → (execOp a.eval o).run P z = .ok (.value v) z)
    (h : ∀ a', Kept D a0 a' → At a' d v → (∀ e u, At a e u → (e == d) = false → At a' e u) → RestIn l m P ops Q S last n (k :: done) a' w) : RestIn l m P ops Q S last (n + 1) done a w := by
  refine heldIn_take (v := v) hnow ho hs hf hc hsh hwait (fun c a w => hQ _ _ c a w) hS (.inl ⟨hw, hr⟩) ?_
  rw [litOf_set, hd]
  exact h _ (put_kept hI hm) (put_new (by rw [hI.size]; exact hz)) fun _ _ g hn => put_old g hn
theorem restIn_split {n : Nat} {done : List Nat} {a : Act} {w : World} (rs : List Nat) (hr : Region.ready .any ops (litOf ops.size done) = rs) (hne : rs.isEmpty = false)
    (h : ∀ i, rs.contains i = true → wpOpIn (Fence.wide.inRound l) m P ops Q i (fun a' w' => (i ≠ last → S w') ∧ RestIn l m P ops Q S last n (i :: done) a' w') a w) : RestIn l m P ops Q S last (n + 1) done a w := by
  subst hr
  refine ⟨fun e => (by rw [e] at hne; cases hne), fun i hi => wpOpIn_mono (fun a' w' h' => ⟨h'.1, ?_⟩) (h i (by simpa using hi))⟩
  rw [litOf_set]
  exact h'.2
theorem restIn_only {n k : Nat} {done : List Nat} {a : Act} {w : World} (hr : Region.ready .any ops (litOf ops.size done) = [k])
    (h : wpOpIn (Fence.wide.inRound l) m P ops Q k (fun a' w' => (k ≠ last → S w') ∧ RestIn l m P ops Q S last n (k :: done) a' w') a w) : RestIn l m P ops Q S last (n + 1) done a w :=
  restIn_split [k] hr rfl fun i hi => by
    have : i = k := by simpa using hi
    subst this
    exact h
theorem restIn_done {done : List Nat} {a : Act} {w : World} (hr : Region.ready .any ops (litOf ops.size done) = []) (h : Q .normal a w) : RestIn l m P ops Q S last 0 done a w := ⟨hr, h⟩
theorem opIn_step {k : Nat} {o : Oper} {a : Act} {w : World} {K : Act → World → Prop} (ho : ops[k]? = some o) (hn : now o = true) (hw : Region.wanted o (yielded ops a.tmps) = true) (h : Oper.uponIn (Fence.wide.inRound l) m P o a K Q ((execOp a.eval o).run P w)) :
    wpOpIn (Fence.wide.inRound l) m P ops Q k K a w := by
  unfold wpOpIn
  rw [ho]
  simp only [hw, if_true]
  unfold Oper.wpIn
  refine ⟨fun _ _ => trivial, ?_⟩
  rw [show (Fence.wide.inRound l).round = some l from rfl, Oper.semAt_some l _ _ (now_spec hn)]
  exact h
theorem opIn_value {k d : Nat} {o : Oper} {v : Value} {D : List Nat} {a0 a : Act} {w w' : World} {K : Act → World → Prop} (hI : Kept D a0 a) (ho : ops[k]? = some o) (hn : now o = true) (hd : o.dst = some d) (hm : D.contains d = true) (hz : d < a0.tmps.size)
    (hw : Region.wanted o (yielded ops a.tmps) = true) (hr : (execOp a.eval o).run P w = .ok (.value v) w')
    (h : ∀ a', Kept D a0 a' → At a' d v → (∀ e u, At a e u → (e == d) = false → At a' e u) → K a' w') : wpOpIn (Fence.wide.inRound l) m P ops Q k K a w := by
  refine opIn_step ho hn hw ?_
  rw [hr, Oper.uponIn_value, hd]
  exact h _ (put_kept hI hm) (put_new (by rw [hI.size]; exact hz)) fun _ _ g hn => put_old g hn
theorem opIn_call {k d : Nat} {o : Oper} {f : FuncId} {args : Array Value} {R : Value → World → Prop} {D : List Nat} {a0 a : Act} {w : World} {K : Act → World → Prop} (hI : Kept D a0 a) (ho : ops[k]? = some o) (hn : now o = true) (hd : o.dst = some d) (hm : D.contains d = true) (hz : d < a0.tmps.size)
    (hw : Region.wanted o (yielded ops a.tmps) = true) (hc : Calls P f args w fun e w' => ∃ v, e = .returned v ∧ R v w') (hr : (execOp a.eval o).run P w = .ok (.enter f args) w)
    (h : ∀ v w' a', R v w' → Kept D a0 a' → At a' d v → (∀ e u, At a e u → (e == d) = false → At a' e u) → K a' w') : wpOpIn (Fence.wide.inRound l) m P ops Q k K a w := by
  refine opIn_step ho hn hw ?_
  rw [hr, Oper.uponIn_enter]
  refine ⟨fun h => by simp [Fence.wide, Fence.inRound] at h, (CallsIn.inRound l (callsIn_wide.2 hc)).mono ?_⟩
  rintro e w' ⟨v, rfl, hR⟩
  dsimp only
  rw [hd]
  exact h _ _ _ hR (put_kept hI hm) (put_new (by rw [hI.size]; exact hz)) fun _ _ g hn => put_old g hn
theorem opIn_store {k : Nat} {o : Oper} {a : Act} {w w' : World} {K : Act → World → Prop} (ho : ops[k]? = some o) (hn : now o = true) (hd : o.dst = none) (hw : Region.wanted o (yielded ops a.tmps) = true) (hr : (execOp a.eval o).run P w = .ok .skip w')
    (h : K a w') : wpOpIn (Fence.wide.inRound l) m P ops Q k K a w := by
  refine opIn_step ho hn hw ?_
  rw [hr, Oper.uponIn_skip, hd]
  exact h
end
end Go.Proofs.Ytiiekecohmaipaa
