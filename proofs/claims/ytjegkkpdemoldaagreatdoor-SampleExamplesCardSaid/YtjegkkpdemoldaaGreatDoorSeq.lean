/-
  A loop over an iterator that itself takes steps in memory (a memo that it fills, a loop of its own over another iterator): its contract, and the law for the loop.
-/
import Derived.RangeFuncNested
import Derived.RangeFuncBound
import Derived.RangeFuncCalls
import Derived.RangeFuncLeaves
import Derived.RangeFuncBox
import Derived.RangeFuncWrites
namespace Go.Proofs.YtjegkkpdemoldaaGreatDoor
open Go.RowKit

/-- What an iterator gives, for each loop body whose invariant minds neither the iterator's own steps (T) nor its book-keeping: all of xs, or, if a round stops it, the first ones. What a round that goes on keeps: Kp. -/
def SeqRuns {α : Type} (F : Fence) (n : Nat) (P : Program) (g : Nat) (lb : Array Value) (encs : α → Array Value) (Kp T : World → World → Prop) (xs : List α) (w : World) : Prop :=
  ∀ (l : Nat) (J Jx : List α → World → Prop) (W : World), Below w.heap.size w W → w.heap.size + 2 ≤ W.heap.size → OwnFrom W.heap.size J → OwnFrom W.heap.size Jx → (∀ s A B, J s A → T A B → J s B) →
    (∀ pre x W1, pre ++ [x] <+: xs → J pre W1 → YieldAt F (n - 1) P l (encs x) W1 fun e W' =>
      (e = .returned (.bool true) ∧ J (pre ++ [x]) W' ∧ Kp W1 W') ∨ (e = .returned (.bool false) ∧ Jx (pre ++ [x]) W' ∧ Kp W1 W')) →
    J [] W →
    CallsIn F n P g (#[.func (.yield l) #[] #[]] ++ lb) W fun e W' => (∃ v, e = .returned v) ∧ (J xs W' ∨ ∃ pre, pre <+: xs ∧ Jx pre W')

theorem SeqRuns.inRound {α : Type} {F : Fence} {n : Nat} {P : Program} {g : Nat} {lb : Array Value} {encs : α → Array Value} {Kp T : World → World → Prop} {xs : List α} {w : World} (l : Nat)
    (h : SeqRuns F n P g lb encs Kp T xs w) : SeqRuns (F.inRound l) n P g lb encs Kp T xs w := h

theorem OwnFrom.up {β : Type} {B B' : Nat} {I : β → World → Prop} (h : OwnFrom B I) (hB : B ≤ B') : OwnFrom B' I :=
  fun s A C row hs hg hr => h s A C row hs hg (fun r e => ⟨Nat.le_trans hB (hr r e).1, (hr r e).2⟩)

/-- How a round may be left: Kp is kept even where it stops the loop. -/
def roundPost {α : Type} (B : Nat) (Kp : World → World → Prop) (I : List α → World → Prop) (Ix : Code → List α → World → Prop) (xs : List α) (W : World) : Exit → Act → World → Prop
  | .normal, _, W' => KeepsFrom B W W' ∧ Kp W W' ∧ I xs W'
  | .ret, _, W' => KeepsFrom B W W' ∧ Kp W W' ∧ Ix .ret xs W'
  | .exit id, _, W' => KeepsFrom B W W' ∧ Kp W W' ∧ Ix (.exit id) xs W'
  | .goto t, _, W' => KeepsFrom B W W' ∧ Kp W W' ∧ Ix (.goto t) xs W'
  | .panic _, _, _ => False
  | .outgrown, _, _ => False

/-- The two blocks that a loop lays for itself: what the rounds defer, and its own record. -/
structure LoopLies (D : Nat) (o : Obj) (W : World) : Prop where
  book : W.heap[D + 1]? = some o
  defers : W.heap[D]? = some (.deferred (some []))

theorem LoopLies.keeps {D : Nat} {o : Obj} {A B : World} (h : LoopLies D o A) (k : KeepsFrom D A B) (ho : o.isCells = false) : LoopLies D o B :=
  ⟨k.same _ _ (by omega) h.book ho, k.same _ _ (Nat.le_refl _) h.defers rfl⟩
theorem LoopLies.grown {D : Nat} {o : Obj} {A B : World} {row : Option Nat} (h : LoopLies D o A) (hg : A.grownBy B row) (hr : ∀ r, row = some r → D + 2 ≤ r) : LoopLies D o B :=
  ⟨(hg.block _ (Array.getElem?_eq_some_iff.1 h.book).1 (fun e => by have := hr _ e.symm; omega)).trans h.book, (hg.block _ (Array.getElem?_eq_some_iff.1 h.defers).1 (fun e => by have := hr _ e.symm; omega)).trans h.defers⟩
theorem LoopLies.lt {D : Nat} {o : Obj} {A : World} (h : LoopLies D o A) : D + 1 < A.heap.size := (Array.getElem?_eq_some_iff.1 h.book).1
theorem LoopLies.put {D : Nat} {o : Obj} {A : World} (h : LoopLies D o A) (o' : Obj) : LoopLies D o' (A.putObj (D + 1) o') :=
  ⟨World.putObj_heap_same h.lt, (World.putObj_heap_other (by omega)).trans h.defers⟩

variable {F : Fence} {n : Nat} {P : Program}

set_option maxHeartbeats 1000000 in
/-- **A loop over such an iterator.** -/
theorem wpIn_loop_runs {α : Type} {g : Operand} {ps : Array Tmp} {assign body : Code} {Q : Exit → Act → World → Prop} {a : Act} {w : World} (hro : F.round = none) (h1 : 1 ≤ n)
    {gf : Nat} {lb : Array Value} (hg : a.eval g = .func (.func gf) #[] lb) (hFg : F.fn gf) (eg : ∀ args w, (callFunc gf args).run P w = .ok (.enter gf args) w)
    {encs : α → Array Value} {Kp T : World → World → Prop} {xs : List α} {w0 : World} (hseq : SeqRuns F (n - 1) P gf lb encs Kp T xs w0) (hb0 : Below w0.heap.size w0 w) (hps : ∀ x, (encs x).size = ps.size)
    (hKt : ∀ {A B C : World}, Kp A B → Kp B C → Kp A C) (hKb : ∀ (W : World) (o o' : Obj), W.heap[w.heap.size + 1]? = some o → o.isCells = false → o.isWalk = false → Kp W (W.putObj (w.heap.size + 1) o'))
    (hTk : ∀ A B, T A B → KeepsFrom w.heap.size A B)
    (I : List α → World → Prop) (Ix : Code → List α → World → Prop) (hI : OwnFrom w.heap.size I) (hIx : ∀ c, OwnFrom w.heap.size (Ix c)) (hIT : ∀ s A B, I s A → T A B → I s B) (h0 : I [] w)
    (Ax : α → Act → World → Prop) (hAx : ∀ x a', OwnFrom w.heap.size (fun (_ : Unit) W => Ax x a' W))
    (hassign : ∀ (l : Nat) (pre : List α) (x : α) (W : World) (K : Act → World → Prop), I pre W → (∀ a' W', KeepsFrom w.heap.size W W' → Kp W W' → I pre W' → Ax x a' W' → K a' W') →
      assign.wpIn (F.inRound l) (n - 1 - 1) P (Exit.then K (fun _ _ _ => False)) { tmps := (ps.zip (encs x)).foldl (fun t (p, v) => t.setIfInBounds p v) a.tmps, defers := [] } W)
    (hbody : ∀ (l : Nat) (pre : List α) (x : α) (a' : Act) (W : World), w.heap.size ≤ l → (∃ r, W.heap[l]? = some (.loop r)) → I pre W → Ax x a' W → pre ++ [x] <+: xs →
      body.wpIn (F.inRound l) (n - 1 - 1) P (roundPost w.heap.size Kp I Ix (pre ++ [x]) W) a' W)
    (hdone : ∀ (D : Nat) (W : World), w.heap.size ≤ D → I xs W → W.heap[D]? = some (.deferred (some [])) → Q .normal { a with defers := { target := .collected D, args := #[] } :: a.defers } W)
    (hstop : ∀ (D : Nat) (c : Code) (pre : List α) (W : World), w.heap.size ≤ D → pre <+: xs → Ix c pre W → W.heap[D]? = some (.deferred (some [])) → c.wpIn F n P Q { a with defers := { target := .collected D, args := #[] } :: a.defers } W) :
    (Code.rangeFunc g ps assign body).wpIn F n P Q a w := by
  refine wpIn_rangeFunc (fun fn hfn => ?_)
  rw [hro]
  -- the loop's record, by its state and the jump that is pending
  have hmk : ∃ mk : LoopState → Option Code → Loop, mk = fun st pe => { state := st, pending := pe, fn, tmps := a.tmps, params := ps, assign, body, defers := w.heap.size } := ⟨_, rfl⟩
  obtain ⟨mk, hmk⟩ := hmk
  have hst : ∀ st st' pe, { mk st pe with state := st' } = mk st' pe := by rw [hmk]; intros; rfl
  have hst2 : ∀ st st' pe pe', { mk st pe with state := st', pending := pe' } = mk st' pe' := by rw [hmk]; intros; rfl
  have hW1 : ∃ W1, (w.alloc (.deferred (some []))).alloc (.loop (mk .ready none)) = W1 := ⟨_, rfl⟩
  obtain ⟨W1, hW1⟩ := hW1
  have hsz : W1.heap.size = w.heap.size + 2 := by rw [← hW1]; simp
  have hL1 : LoopLies w.heap.size (.loop (mk .ready none)) W1 := by
    rw [← hW1]
    refine ⟨?_, (Below.heap_alloc _ _ _ (by simp)).trans (World.alloc_heap_new w _)⟩
    have := World.alloc_heap_new (w.alloc (.deferred (some []))) (.loop (mk .ready none))
    rwa [World.size_alloc] at this
  have hI1 : I [] W1 := by rw [← hW1]; exact hI.alloc _ (hI.alloc _ h0)
  have hb1 : Below w0.heap.size w0 W1 := by
    rw [← hW1]
    exact hb0.trans ((((Below.refl _ w).alloc (Nat.le_refl _) _).alloc (by simp) _).mono hb0.size)
  refine ⟨w.heap.size + 1, [{ target := .collected w.heap.size, args := #[] }], W1, { target := .fn (.func gf) lb, args := #[.func (.yield (w.heap.size + 1)) #[] #[]] }, W1, gf, #[.func (.yield (w.heap.size + 1)) #[] #[]] ++ lb, W1, ?enter, ?value, ?fenced, ?invoke, fun _ => h1, ?run⟩
  case enter => rw [← hW1, hmk]; exact run_enterLoop_outer _ _ _ _ _
  case value => simp only [resolve, hg]; simp [go_sem]
  case fenced => intro f' hf'; simp [Target.leads] at hf'; subst hf'; exact hFg
  case invoke => simp [invoke, go_sem, eg]
  case run =>
    have hwid : ∀ {A : World} {row : Option Nat}, (∀ r, row = some r → W1.heap.size ≤ r ∧ ∃ o : Obj, A.heap[r]? = some o ∧ o.isCells = false) → (∀ r, row = some r → w.heap.size ≤ r ∧ ∃ o : Obj, A.heap[r]? = some o ∧ o.isCells = false) :=
      fun hr r e => ⟨by have := (hr r e).1; omega, (hr r e).2⟩
    have htop : ∀ {A : World} {row : Option Nat}, (∀ r, row = some r → W1.heap.size ≤ r ∧ ∃ o : Obj, A.heap[r]? = some o ∧ o.isCells = false) → (∀ r, row = some r → w.heap.size + 2 ≤ r) :=
      fun hr r e => by have := (hr r e).1; omega
    refine (hseq (w.heap.size + 1) (fun pre W => I pre W ∧ LoopLies w.heap.size (.loop (mk .ready none)) W) (fun pre W => ∃ c, Ix c pre W ∧ LoopLies w.heap.size (.loop (mk .done (some c))) W) W1 hb1 (by have := hb0.size; omega)
      (fun s A B row hs hg' hr => ⟨hI s A B row hs.1 hg' (hwid hr), hs.2.grown hg' (htop hr)⟩)
      (fun s A B row hs hg' hr => by obtain ⟨c, hc, hl⟩ := hs; exact ⟨c, hIx c s A B row hc hg' (hwid hr), hl.grown hg' (htop hr)⟩)
      (fun s A B hs hT => ⟨hIT s A B hs.1 hT, hs.2.keeps (hTk A B hT) rfl⟩) ?round ⟨hI1, hL1⟩).mono ?after
    case round =>
      rintro pre x W hpx ⟨hi, hl⟩
      have hy := run_yield (P := P) (args := encs x) hl.book (by rw [hmk]; exact hps x)
      rw [hmk] at hy
      refine ⟨fn, _, assign, body, hy, roundIn_of_wpIn hfn (hassign _ pre x W _ hi (fun a' V hkf hkp hia hax => ?_))⟩
      have hlV := hl.keeps hkf rfl
      have hlB := hlV.put (.loop (mk .busy none))
      have hkp2 : Kp V (V.putObj (w.heap.size + 1) (.loop (mk .busy none))) := hKb _ _ _ hlV.book rfl rfl
      have hbr : (Instr.beginRound (w.heap.size + 1)).run P V = _ := run_beginRound hlV.book (by rw [hmk])
      rw [hst] at hbr
      refine ⟨_, hbr, ?_⟩
      refine wpIn_mono (hbody _ pre x a' _ (by omega) ⟨_, hlB.book⟩ (hI.putObj _ hia (by omega) hlV.book rfl) ((hAx x a').putObj (s := ()) _ hax (by omega) hlV.book rfl) hpx) ?_
      have fin : ∀ (jump : Option Code) (V3 : World), KeepsFrom w.heap.size (V.putObj (w.heap.size + 1) (.loop (mk .busy none))) V3 →
          (Instr.endRound (w.heap.size + 1) jump).run P V3 = .ok (.bool jump.isNone) (V3.putObj (w.heap.size + 1) (.loop (mk (if jump.isNone then .ready else .done) jump))) ∧ LoopLies w.heap.size (.loop (mk .busy none)) V3 := fun jump V3 hk3 => by
        have hl3 := hlB.keeps hk3 rfl
        have her := run_endRound (P := P) jump hl3.book
        rw [hst2] at her
        exact ⟨her, hl3⟩
      rintro e a3 V3 hp
      cases e with
      | normal =>
        obtain ⟨hk3, hkp3, hi3⟩ := hp
        obtain ⟨hr, hl3⟩ := fin none V3 hk3
        exact ⟨_, _, hr, .inl ⟨rfl, ⟨hI.putObj _ hi3 (by omega) hl3.book rfl, hl3.put _⟩, hKt hkp (hKt (hKt hkp2 hkp3) (hKb _ _ _ hl3.book rfl rfl))⟩⟩
      | ret =>
        obtain ⟨hk3, hkp3, hi3⟩ := hp
        obtain ⟨hr, hl3⟩ := fin (some .ret) V3 hk3
        exact ⟨_, _, hr, .inr ⟨rfl, ⟨_, (hIx _).putObj _ hi3 (by omega) hl3.book rfl, hl3.put _⟩, hKt hkp (hKt (hKt hkp2 hkp3) (hKb _ _ _ hl3.book rfl rfl))⟩⟩
      | exit id =>
        obtain ⟨hk3, hkp3, hi3⟩ := hp
        obtain ⟨hr, hl3⟩ := fin (some (.exit id)) V3 hk3
        exact ⟨_, _, hr, .inr ⟨rfl, ⟨_, (hIx _).putObj _ hi3 (by omega) hl3.book rfl, hl3.put _⟩, hKt hkp (hKt (hKt hkp2 hkp3) (hKb _ _ _ hl3.book rfl rfl))⟩⟩
      | goto t =>
        obtain ⟨hk3, hkp3, hi3⟩ := hp
        obtain ⟨hr, hl3⟩ := fin (some (.goto t)) V3 hk3
        exact ⟨_, _, hr, .inr ⟨rfl, ⟨_, (hIx _).putObj _ hi3 (by omega) hl3.book rfl, hl3.put _⟩, hKt hkp (hKt (hKt hkp2 hkp3) (hKb _ _ _ hl3.book rfl rfl))⟩⟩
      | panic ch => exact hp.elim
      | outgrown => exact hp.elim
    case after =>
      rintro e W2 ⟨⟨v, rfl⟩, (⟨hi, hl⟩ | ⟨pre, hpre, c, hi, hl⟩)⟩
      · have hel := run_endLoop (P := P) hl.book (by rw [hmk]; simp)
        rw [show (mk .ready none).pending = none from by rw [hmk]] at hel
        exact ⟨none, _, hel, hdone _ _ (Nat.le_refl _) (hI.putObj _ hi (by omega) hl.book rfl) (hl.put _).defers⟩
      · have hel := run_endLoop (P := P) hl.book (by rw [hmk]; simp)
        rw [show (mk .done (some c)).pending = some c from by rw [hmk]] at hel
        exact ⟨some c, _, hel, hstop _ c pre _ (Nat.le_refl _) hpre ((hIx c).putObj _ hi (by omega) hl.book rfl) (hl.put _).defers⟩

end Go.Proofs.YtjegkkpdemoldaaGreatDoor
