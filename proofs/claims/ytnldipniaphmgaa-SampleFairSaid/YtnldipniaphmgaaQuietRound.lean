/-
  A region that draws its order, within a round of a loop over an iterator: one walk serves every order, as outside.
-/
import Derived.Test.YtnldipniaphmgaaBase
import Derived.OrdersIn
import Derived.CallsIn
import Derived.RangeFuncCalls
namespace Go.Proofs.Ytnldipniaphmgaa
open Go.RowKit

/-- The operation defers nothing. -/
def now (o : Oper) : Bool := match o.op with
  | .defer _ => false
  | _ => true
theorem now_spec {o : Oper} (h : now o = true) : ∀ c, o.op ≠ .defer c := fun c e => by
  unfold now at h
  rw [e] at h
  cases h

section
variable {P : Program} {ops : Array Oper} {C : World → Prop} {n l : Nat}

theorem quiet_op_round {o : Oper} {a : Act} {K : Act → Prop} {K' : Act → World → Prop} {Q' : Exit → Act → World → Prop} {w : World} (hnow : now o = true) (hw : C w) (h : ∀ a w', C w' → K a → K' a w') (hh : o.quiet P a C K) :
    o.wpIn (Fence.wide.inRound l) n P a w K' Q' := by
  obtain ⟨v, hv, hK⟩ := hh
  have h3 := hv w hw
  unfold Oper.quietAt at h3
  unfold Oper.wpIn
  refine ⟨fun _ _ => trivial, ?_⟩
  rw [show (Fence.wide.inRound l).round = some l from rfl, Oper.semAt_some l _ _ (now_spec hnow)]
  generalize (execOp a.eval o).run P w = r at *
  match r, h3 with
  | .ok (.value u) w', h3 =>
    obtain ⟨rfl, rfl⟩ := h3
    exact h _ _ hw hK
  | .ok .skip w', h3 =>
    obtain ⟨rfl, hu⟩ := h3
    subst hu
    exact h _ _ hw hK
  | .ok (.enter f args) w', h3 =>
    obtain ⟨rfl, hc⟩ := h3
    refine ⟨(fun hd => by cases hd), ?_⟩
    refine (CallsIn.inRound l (callsIn_wide.2 hc)).mono ?_
    rintro e w'' ⟨rfl, hw''⟩
    exact h _ _ hw'' hK

theorem quiet_pick_round (hnow : ∀ (i : Nat) (o : Oper), ops[i]? = some o → now o = true) {i : Nat} {a : Act} {K : Act → Prop} {K' : Act → World → Prop} {Q' : Exit → Act → World → Prop} {w : World} (hC : C w) (h : ∀ a w', C w' → K a → K' a w') (hh : qOp P ops C i K a) :
    wpOpIn (Fence.wide.inRound l) n P ops Q' i K' a w := by
  unfold qOp at hh
  unfold wpOpIn
  cases ho : ops[i]? with
  | none =>
    simp only [ho] at hh
    exact h _ _ hC hh
  | some o =>
    simp only [ho] at hh
    by_cases hw : Region.wanted o (yielded ops a.tmps) = true
    · simp only [hw, if_true] at hh ⊢
      exact quiet_op_round (hnow i o ho) hC h hh
    · simp only [hw] at hh ⊢
      exact ⟨fun _ _ => trivial, h _ _ hC hh⟩

theorem quiet_any_round (hnow : ∀ (i : Nat) (o : Oper), ops[i]? = some o → now o = true) {md : Region.Mode} {Q : Act → Prop} {Q' : Exit → Act → World → Prop} (hQ : ∀ a w, C w → Q a → Q' .normal a w) : ∀ (fuel : Nat) (listed : Array Bool) (a : Act) (w : World), C w →
    wpAnyQ P md ops C Q fuel listed a → wpAnyIn (Fence.wide.inRound l) n P md ops Q' fuel listed a w
  | 0, _, _, _, hw, h => ⟨h.1, hQ _ _ hw h.2⟩
  | fuel + 1, _, _, _, hw, h => ⟨fun h0 => hQ _ _ hw (h.1 h0), fun i hi => quiet_pick_round hnow hw (fun a' w' hw' => quiet_any_round hnow hQ fuel _ a' w' hw') (h.2 i hi)⟩
end

/-- **A region within a round, quiet in a class of worlds.** -/
theorem wpIn_region_class {P : Program} {id n l : Nat} {Q : Exit → Act → World → Prop} {a : Act} {w : World} {L : List Oper} (S : World → Prop) (hm : P.follows .mixedOrders = true) (hB : Region.lexB .any L.toArray = true) (hnow : L.all now = true) (hS : S w.drew)
    (h : wpQuiet P L.toArray (fun w' => ∃ x : Among S, w' = x.val) (fun a' => ∀ w', (∃ x : Among S, w' = x.val) → Q .normal a' w') L a) : (Code.region id L.toArray true).wpIn (Fence.wide.inRound l) n P Q a w := by
  simp only [Region.lexB, Bool.and_eq_true] at hB
  have hn : ∀ (i : Nat) (o : Oper), L.toArray[i]? = some o → now o = true := fun i o ho => by
    have : o ∈ L := List.mem_of_getElem? (by simpa using ho)
    exact List.all_eq_true.1 hnow o this
  refine wpIn_region_any hm (quiet_any_round (C := fun w' => ∃ x : Among S, w' = x.val) (Q := fun a' => ∀ w', (∃ x : Among S, w' = x.val) → Q .normal a' w') hn (fun _ w' hw' h => h w' hw') _ _ _ _ ⟨⟨_, hS⟩, rfl⟩ ?_)
  have := wpAnyQ_lex (C := fun w' => ∃ x : Among S, w' = x.val) (md := .any) hB.1 L 0 (Array.replicate L.length false) a (by simp) (by simpa using hB.2) h
  simpa using this

end Go.Proofs.Ytnldipniaphmgaa
