/-
  A range over an iterator that keeps a state of its own in cells: what a round must keep are the objects that the iterator names; the caller may write into all others, also into those that it makes within the loop.
-/
import Derived.Test.YtiiekecohmaipaaMPure
import Derived.Test.YtiiekecohmaipaaCHeldIn
import Derived.RangeFuncNested
import Derived.RangeFuncBound
import Derived.RangeFuncCalls
import Derived.RangeFuncLeaves
import Derived.RangeFuncBox
import Derived.RangeFuncWrites
import Derived.Shelf.Abstract
import Derived.Shelf.RegionOpen
import Derived.WalkKit
import Derived.OwnWalkIn
import Derived.TacticsInMore
import Derived.LoopNIn
import Derived.LoopIn
namespace Go.Proofs.Ytiiekecohmaipaa
open Go.RowKit

/-- What is no cells, and what must be kept, lies as it lay. -/
structure KeptR (keep : Nat → Obj → Prop) (W W' : World) : Prop where
  size : W.heap.size ≤ W'.heap.size
  same : ∀ i o, W.heap[i]? = some o → (o.isCells = false ∨ keep i o) → W'.heap[i]? = some o
/-- All cells that must be kept lie as they lay. -/
structure KeptC (keep : Nat → Obj → Prop) (W W' : World) : Prop where
  size : W.heap.size ≤ W'.heap.size
  cells : ∀ i o, keep i o → W.heap[i]? = some o → o.isCells = true → W'.heap[i]? = some o
theorem KeptR.refl (keep : Nat → Obj → Prop) (W : World) : KeptR keep W W := ⟨Nat.le_refl _, fun _ _ h _ => h⟩
theorem KeptR.trans {keep : Nat → Obj → Prop} {X Y Z : World} (h : KeptR keep X Y) (k : KeptR keep Y Z) : KeptR keep X Z := ⟨Nat.le_trans h.size k.size, fun i o hi hb => k.same i o (h.same i o hi hb) hb⟩
theorem KeptR.of_below {keep : Nat → Obj → Prop} {W W' : World} (h : Below W.heap.size W W') : KeptR keep W W' := ⟨h.size, fun i _ hi _ => (h.block i (Array.getElem?_eq_some_iff.1 hi).1).trans hi⟩
theorem KeptR.set {keep : Nat → Obj → Prop} (W : World) {p : Addr} (hp : ∀ o, W.heap[p.block]? = some o → ¬ (o.isCells = false ∨ keep p.block o)) (v : Value) : KeptR keep W (W.setCell p v) := ⟨by simp, fun i o hi hb => (setCell_other (fun e => by subst e; exact hp o hi hb)).trans hi⟩
/-- Where only one block was touched, and that is none that must be kept. -/
theorem KeptR.alone {keep : Nat → Obj → Prop} {W W' : World} {x : Option Addr} (hs : W.heap.size ≤ W'.heap.size) (ha : Alone x W W') (hp : ∀ y o, x = some y → W.heap[y.block]? = some o → ¬ (o.isCells = false ∨ keep y.block o)) : KeptR keep W W' := ⟨hs, fun i o hi hb => (ha i (Array.getElem?_eq_some_iff.1 hi).1 (fun y hy e => by subst e; exact hp y o hy hi hb)).trans hi⟩
theorem KeptC.trans {keep : Nat → Obj → Prop} {X Y Z : World} (h : KeptC keep X Y) (k : KeptC keep Y Z) : KeptC keep X Z := ⟨Nat.le_trans h.size k.size, fun i o hb hi ho => k.cells i o hb (h.cells i o hb hi ho) ho⟩
theorem KeptR.cells {keep : Nat → Obj → Prop} {W W' : World} (h : KeptR keep W W') : KeptC keep W W' := ⟨h.size, fun i o hb hi _ => h.same i o hi (.inr hb)⟩
theorem KeptC.put {keep : Nat → Obj → Prop} (W : World) (l : Nat) (o o' : Obj) (hl : W.heap[l]? = some o) (ho : o.isCells = false) : KeptC keep W (W.putObj l o') := ⟨by simp [World.putObj], fun i u _ hi hu => (World.putObj_heap_other (fun e => by subst e; rw [hl] at hi; cases hi; rw [ho] at hu; cases hu)).trans hi⟩
/-- All cells that are no others' own lie as they lay. -/
def Spared (own : Obj → Prop) (W W' : World) : Prop := ∀ (i : Nat) (o : Obj), W.heap[i]? = some o → o.isCells = true → ¬ own o → W'.heap[i]? = some o
theorem Spared.of_below {own : Obj → Prop} {W W' : World} (h : Below W.heap.size W W') : Spared own W W' := fun i _ hi _ _ => (h.block i (Array.getElem?_eq_some_iff.1 hi).1).trans hi
theorem Spared.put {own : Obj → Prop} {W : World} {l : Nat} {o : Obj} (hl : W.heap[l]? = some o) (ho : o.isCells = false) (o' : Obj) : Spared own W (W.putObj l o') := fun i u hi hu _ => (World.putObj_heap_other (fun e => by subst e; rw [hl] at hi; cases hi; rw [ho] at hu; cases hu)).trans hi
/-- What is said stands whatever is done from B on with what is one's own. -/
def Stays {β : Type} (own : Obj → Prop) (B : Nat) (J : β → World → Prop) : Prop := ∀ s W W', Below B W W' → Spared own W W' → J s W → J s W'
theorem below_put {B : Nat} (W : World) {l : Nat} (hl : B ≤ l) (o : Obj) : Below B W (W.putObj l o) where
  os := rfl
  tape := rfl
  output := rfl
  size := by simp [World.putObj]
  block := fun k hk => World.putObj_heap_other (by omega)

/-- The contract of such an iterator. -/
def SeqC {α : Type} (n : Nat) (P : Program) (g : Nat) (lb : Array Value) (encs : α → Array Value) (Bad : Nat → Obj → Prop) (own : Obj → Prop) (S Sp : List α → Prop) (Nx : List α → α → Prop) (N : Nat) (w : World) : Prop :=
  ∀ (l : Nat) (J Jx : List α → World → Prop) (W : World), Below w.heap.size w W → Stays own W.heap.size J → Stays own W.heap.size Jx →
    (∀ pre x V, J pre V → pre.length < N → Nx pre x → YieldAt Fence.wide (n - 1) P l (encs x) V fun e V' =>
      (e = .returned (.bool true) ∧ J (pre ++ [x]) V' ∧ KeptC Bad V V') ∨ (e = .returned (.bool false) ∧ Jx (pre ++ [x]) V')) →
    J [] W →
    CallsIn Fence.wide n P g (#[.func (.yield l) #[] #[]] ++ lb) W fun e V => (∃ v, e = .returned v) ∧ ((∃ xs, S xs ∧ J xs V) ∨ (∃ pre, Sp pre ∧ Jx pre V))

/-- How a round's body may be left. -/
def keptPost {α : Type} (Bad : Nat → Obj → Prop) (I : List α → World → Prop) (Ix : Code → List α → World → Prop) (xs : List α) (W : World) : Exit → Act → World → Prop
  | .normal, _, W' => KeptR Bad W W' ∧ I xs W'
  | .ret, _, W' => KeptR Bad W W' ∧ Ix .ret xs W'
  | .exit id, _, W' => KeptR Bad W W' ∧ Ix (.exit id) xs W'
  | .goto t, _, W' => KeptR Bad W W' ∧ Ix (.goto t) xs W'
  | .panic _, _, _ => False
  | .outgrown, _, _ => False

theorem wp_range_state {n : Nat} {P : Program} {w : World} {α : Type} {g : Operand} {ps : Array Tmp} {assign body : Code} {Q : Exit → Act → World → Prop} {a : Act}
    (h1 : 1 ≤ n) {gf : Nat} {lb : Array Value} (hg : a.eval g = .func (.func gf) #[] lb) (eg : ∀ args w, (callFunc gf args).run P w = .ok (.enter gf args) w)
    {encs : α → Array Value} {Bad : Nat → Obj → Prop} {own : Obj → Prop} {S Sp : List α → Prop} {Nx : List α → α → Prop} {N : Nat} {w0 : World} (hseq : SeqC (n - 1) P gf lb encs Bad own S Sp Nx N w0) (hb0 : Below w0.heap.size w0 w) (hps : ∀ x, (encs x).size = ps.size)
    (I : List α → World → Prop) (Ix : Code → List α → World → Prop) (hI : Stays own w.heap.size I) (hIx : ∀ c, Stays own w.heap.size (Ix c)) (h0 : I [] w) (Ax : α → Act → World → Prop) (hAx : ∀ x a', OwnFrom w.heap.size (fun (_ : Unit) W => Ax x a' W))
    (hassign : ∀ (l : Nat) (pre : List α) (x : α) (W : World) (K : Act → World → Prop), I pre W → w.heap.size ≤ W.heap.size → (∀ a' W', KeptR Bad W W' → I pre W' → Ax x a' W' → K a' W') →
      assign.wpIn (Fence.wide.inRound l) (n - 1 - 1) P (Exit.then K (fun _ _ _ => False)) { tmps := (ps.zip (encs x)).foldl (fun t (p, v) => t.setIfInBounds p v) a.tmps, defers := [] } W)
    (hbody : ∀ (l : Nat) (pre : List α) (x : α) (a' : Act) (W : World), w.heap.size ≤ W.heap.size → I pre W → Ax x a' W → pre.length < N → Nx pre x → body.wpIn (Fence.wide.inRound l) (n - 1 - 1) P (keptPost Bad I Ix (pre ++ [x]) W) a' W)
    (hdone : ∀ (D : Nat) (xs : List α) (W : World), w.heap.size ≤ D → S xs → I xs W → W.heap[D]? = some (.deferred (some [])) → Q .normal { a with defers := { target := .collected D, args := #[] } :: a.defers } W)
    (hstop : ∀ (D : Nat) (c : Code) (pre : List α) (W : World), w.heap.size ≤ D → Sp pre → Ix c pre W → W.heap[D]? = some (.deferred (some [])) → c.wpIn Fence.wide n P Q { a with defers := { target := .collected D, args := #[] } :: a.defers } W) :
    (Code.rangeFunc g ps assign body).wpIn Fence.wide n P Q a w := by
  refine wpIn_rangeFunc fun fn hfn => ?_
  rw [show Fence.wide.round = none from rfl]
  obtain ⟨rec, hrec⟩ : ∃ rec : LoopState → Option Code → Loop, rec = fun st pe => { state := st, pending := pe, fn, tmps := a.tmps, params := ps, assign, body, defers := w.heap.size } := ⟨_, rfl⟩
  obtain ⟨V, hV⟩ : ∃ V, (w.alloc (.deferred (some []))).alloc (.loop (rec .ready none)) = V := ⟨_, rfl⟩
  have hsz : V.heap.size = w.heap.size + 2 := by rw [← hV]; simp
  have hbw : Below w.heap.size w V := by rw [← hV]; exact (below_new w _).alloc (by simp) _
  have hrow : V.heap[w.heap.size + 1]? = some (.loop (rec .ready none)) := by rw [← hV]; exact heap_top _ _ (by simp)
  have hdef : V.heap[w.heap.size]? = some (.deferred (some [])) := by rw [← hV]; exact heap_up (heap_top _ _ rfl) _
  refine ⟨w.heap.size + 1, [{ target := .collected w.heap.size, args := #[] }], V, { target := .fn (.func gf) lb, args := #[.func (.yield (w.heap.size + 1)) #[] #[]] }, V, gf,
    #[.func (.yield (w.heap.size + 1)) #[] #[]] ++ lb, V, ?_, ?_, fun _ _ => trivial, ?_, fun _ => h1, ?_⟩
  · rw [← hV, hrec]; exact run_enterLoop_outer _ _ _ _ _
  · simp only [resolve, hg]; simp [go_sem]
  · simp [invoke, go_sem, eg]
  refine (hseq (w.heap.size + 1) (fun pre W => I pre W ∧ W.heap[w.heap.size + 1]? = some (.loop (rec .ready none)) ∧ W.heap[w.heap.size]? = some (.deferred (some [])))
    (fun pre W => ∃ c, Ix c pre W ∧ W.heap[w.heap.size + 1]? = some (.loop (rec .done (some c))) ∧ W.heap[w.heap.size]? = some (.deferred (some []))) V (hb0.trans (hbw.mono hb0.size))
    (fun s A B hb hsp hs => ⟨hI s A B (hb.mono (by omega)) hsp hs.1, (hb.block _ (by omega)).trans hs.2.1, (hb.block _ (by omega)).trans hs.2.2⟩)
    (fun s A B hb hsp hs => by
      obtain ⟨c, hc, hl, hk⟩ := hs
      exact ⟨c, hIx c s A B (hb.mono (by omega)) hsp hc, (hb.block _ (by omega)).trans hl, (hb.block _ (by omega)).trans hk⟩) ?_ ⟨hI _ _ _ hbw (Spared.of_below hbw) h0, hrow, hdef⟩).mono ?_
  · rintro pre x W ⟨hi, hl, hk⟩ hlen hnx
    have hy := run_yield (P := P) (args := encs x) hl (by rw [hrec]; exact hps x)
    rw [hrec] at hy
    have hWs : w.heap.size ≤ W.heap.size := by have := (Array.getElem?_eq_some_iff.1 hl).1; omega
    refine ⟨fn, _, assign, body, hy, roundIn_of_wpIn hfn (hassign _ pre x W _ hi hWs fun a' U hU hiU hax => ?_)⟩
    have hlU := hU.same _ _ hl (.inl rfl)
    have hkU := hU.same _ _ hk (.inl rfl)
    have hUs : w.heap.size + 1 < U.heap.size := (Array.getElem?_eq_some_iff.1 hlU).1
    refine ⟨_, run_beginRound hlU (by rw [hrec]), ?_⟩
    obtain ⟨T, hT⟩ : ∃ T, U.putObj (w.heap.size + 1) (.loop { rec .ready none with state := .busy }) = T := ⟨_, rfl⟩
    have hlT : T.heap[w.heap.size + 1]? = some (.loop { rec .ready none with state := .busy }) := by rw [← hT]; exact World.putObj_heap_same hUs
    have hkT : T.heap[w.heap.size]? = some (.deferred (some [])) := by rw [← hT]; exact (World.putObj_heap_other (by omega)).trans hkU
    have hiT : I pre T := by rw [← hT]; exact hI _ _ _ (below_put U (by omega) _) (Spared.put hlU rfl _) hiU
    have haT : Ax x a' T := by rw [← hT]; exact (hAx x a').putObj (s := ()) _ hax (by omega) hlU rfl
    have hcT : KeptC Bad W T := by rw [← hT]; exact hU.cells.trans (KeptC.put U _ _ _ hlU rfl)
    rw [hT]
    have hTs : w.heap.size ≤ T.heap.size := by have := (Array.getElem?_eq_some_iff.1 hlT).1; omega
    clear hT
    refine wpIn_mono (hbody _ pre x a' T hTs hiT haT hlen hnx) ?_
    have fin : ∀ (jump : Option Code) (R : World), KeptR Bad T R →
        (Instr.endRound (w.heap.size + 1) jump).run P R = .ok (.bool jump.isNone) (R.putObj (w.heap.size + 1) (.loop (rec (if jump.isNone then .ready else .done) jump))) ∧
        R.heap[w.heap.size + 1]? = some (.loop { rec .ready none with state := .busy }) ∧
        (R.putObj (w.heap.size + 1) (.loop (rec (if jump.isNone then .ready else .done) jump))).heap[w.heap.size + 1]? = some (.loop (rec (if jump.isNone then .ready else .done) jump)) ∧
        (R.putObj (w.heap.size + 1) (.loop (rec (if jump.isNone then .ready else .done) jump))).heap[w.heap.size]? = some (.deferred (some [])) := fun jump R hR => by
      have hlR := hR.same _ _ hlT (.inl rfl)
      have hkR := hR.same _ _ hkT (.inl rfl)
      have he := run_endRound (P := P) jump hlR
      rw [hrec] at he ⊢
      exact ⟨he, by rw [hrec] at hlR; exact hlR, World.putObj_heap_same (Array.getElem?_eq_some_iff.1 hlR).1, (World.putObj_heap_other (by omega)).trans hkR⟩
    have leave : ∀ (c : Code) (R : World), KeptR Bad T R → Ix c (pre ++ [x]) R → ∃ c', Ix c' (pre ++ [x]) (R.putObj (w.heap.size + 1) (.loop (rec .done (some c)))) ∧ (R.putObj (w.heap.size + 1) (.loop (rec .done (some c)))).heap[w.heap.size + 1]? = some (.loop (rec .done (some c'))) ∧ (R.putObj (w.heap.size + 1) (.loop (rec .done (some c)))).heap[w.heap.size]? = some (.deferred (some [])) := fun c R hR hi3 => by
      obtain ⟨_, hl3, hl4, hk4⟩ := fin (some c) R hR
      exact ⟨c, hIx c _ _ _ (below_put R (by omega) _) (Spared.put hl3 rfl _) hi3, hl4, hk4⟩
    rintro e a3 R hp
    cases e with
    | normal =>
      obtain ⟨hR, hiR⟩ := hp
      obtain ⟨hr, hl3, hl4, hk4⟩ := fin none R hR
      exact ⟨_, _, hr, .inl ⟨rfl, ⟨hI _ _ _ (below_put R (by omega) _) (Spared.put hl3 rfl _) hiR, hl4, hk4⟩, hcT.trans (hR.cells.trans (KeptC.put R _ _ _ hl3 rfl))⟩⟩
    | ret => exact ⟨_, _, (fin (some .ret) R hp.1).1, .inr ⟨rfl, leave _ R hp.1 hp.2⟩⟩
    | exit id => exact ⟨_, _, (fin (some (.exit id)) R hp.1).1, .inr ⟨rfl, leave _ R hp.1 hp.2⟩⟩
    | goto t => exact ⟨_, _, (fin (some (.goto t)) R hp.1).1, .inr ⟨rfl, leave _ R hp.1 hp.2⟩⟩
    | panic ch => exact hp.elim
    | outgrown => exact hp.elim
  · rintro e R ⟨⟨v, rfl⟩, (⟨xs, hS, hi, hl, hk⟩ | ⟨pre, hSp, c, hi, hl, hk⟩)⟩
    · exact ⟨none, _, by have := run_endLoop (P := P) hl (by rw [hrec]; simp); rw [hrec] at this; exact this, hdone _ xs _ (Nat.le_refl _) hS (hI _ _ _ (below_put R (by omega) _) (Spared.put hl (by rw [hrec]; rfl) _) hi) ((World.putObj_heap_other (by omega)).trans hk)⟩
    · exact ⟨some c, _, by have := run_endLoop (P := P) hl (by rw [hrec]; simp); rw [hrec] at this; exact this, hstop _ c pre _ (Nat.le_refl _) hSp (hIx c _ _ _ (below_put R (by omega) _) (Spared.put hl (by rw [hrec]; rfl) _) hi) ((World.putObj_heap_other (by omega)).trans hk)⟩
end Go.Proofs.Ytiiekecohmaipaa
