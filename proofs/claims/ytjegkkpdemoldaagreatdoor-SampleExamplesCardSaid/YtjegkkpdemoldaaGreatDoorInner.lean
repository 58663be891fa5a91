/-
  A loop over an iterator within a round of another such loop.
-/
import Derived.Test.YtjegkkpdemoldaaGreatDoorUpTo
namespace Go.Proofs.YtjegkkpdemoldaaGreatDoor
open Go.RowKit Go.Shelf
attribute [local go_sem] Oper.semAt_some

/-- What an iterator gives that takes no steps of its own, wherever it is begun. -/
def SeqRuns0 {α : Type} (F : Fence) (n : Nat) (P : Program) (g : Nat) (lb : Array Value) (encs : α → Array Value) (xs : List α) (w : World) : Prop :=
  ∀ (l : Nat) (J Jx : List α → World → Prop) (W : World), Below w.heap.size w W → OwnFrom W.heap.size J → OwnFrom W.heap.size Jx →
    (∀ pre x W1, pre ++ [x] <+: xs → J pre W1 → YieldAt F (n - 1) P l (encs x) W1 fun e W' => (e = .returned (.bool true) ∧ J (pre ++ [x]) W') ∨ (e = .returned (.bool false) ∧ Jx (pre ++ [x]) W')) →
    J [] W →
    CallsIn F n P g (#[.func (.yield l) #[] #[]] ++ lb) W fun e W' => (∃ v, e = .returned v) ∧ (J xs W' ∨ ∃ pre, pre <+: xs ∧ Jx pre W')

theorem SeqRuns0.inRound {α : Type} {F : Fence} {n : Nat} {P : Program} {g : Nat} {lb : Array Value} {encs : α → Array Value} {xs : List α} {w : World} (l : Nat)
    (h : SeqRuns0 F n P g lb encs xs w) : SeqRuns0 (F.inRound l) n P g lb encs xs w := h

set_option maxRecDepth 100000 in
set_option maxHeartbeats 2000000 in
/-- **upTo's iterator**, wherever it is begun. -/
theorem upTo_runs0 (m B : Nat) (b : Nat) (hb : b ≤ 1000) (w : World) (hB : B < w.heap.size) (hc : w.cell? ⟨B, 0, none⟩ = some (.int .i64 b)) :
    SeqRuns0 Fence.wide (m + 1) Tryz.prog 93 #[.pointer (some ⟨B, 0, none⟩)] (fun x : Int => #[Value.int .i64 x]) (Pure.ints (b + 1)) w := fun l J Jx W hW _ _ hY h0 => by
  have hc' := (hW.cell (p := ⟨B, 0, none⟩) hB).trans hc
  refine callsIn_of_wp Tryz.func93 rfl trivial ?_ rfl
  simp only [Tryz.ntmps93, List.size_toArray, List.length_cons, List.length_nil, Nat.reduceAdd, Nat.reduceSub, Array.replicate_succ, Array.replicate_zero, List.push_toArray, List.append_toArray, List.nil_append, List.cons_append]
  gi_wp2
  gi_loopw [3, 6] (fun _ i wr => ∃ k : Nat, k ≤ b + 1 ∧ i = .int .i64 k ∧ J (Pure.ints k) wr) (fun _ i _ => b + 1 - (intOf i).toNat)
  case atStart => exact ⟨0, Nat.zero_le _, rfl, h0⟩
  case round =>
    obtain ⟨k, hk, rfl, hJs⟩ := hrel
    by_cases hlt : k < b + 1
    · obtain ⟨fn, tmps, assign, body, hy, hR⟩ := hY _ (k : Int) wr (by rw [← Pure.ints_succ]; exact Pure.ints_prefix (by omega)) hJs
      gi_wp2
      refine hR.mono ?_
      rintro e W3 (⟨rfl, hJ3⟩ | ⟨rfl, hJx3⟩)
      · gi_wp2
        go_roundw
        case rel => exact ⟨k + 1, by omega, by go_num, by rw [Pure.ints_succ]; exact hJ3⟩
        case measure => simp [intOf]; omega
      · gi_wp2
        refine bodyPost_ret (results_none rfl _ _ _) rfl ?_
        exact ⟨⟨_, rfl⟩, .inr ⟨_, by rw [← Pure.ints_succ]; exact Pure.ints_prefix (by omega), hJx3⟩⟩
    · obtain rfl : k = b + 1 := by omega
      gi_wp2
      go_end0
      exact ⟨⟨_, rfl⟩, .inl hJs⟩

/-- How a round may be left, where nothing but the loops' records is minded. -/
def innerPost {α : Type} (B : Nat) (I : List α → World → Prop) (Ix : Code → List α → World → Prop) (xs : List α) (W : World) : Exit → Act → World → Prop
  | .normal, _, W' => KeepsFrom B W W' ∧ I xs W'
  | .ret, _, W' => KeepsFrom B W W' ∧ Ix .ret xs W'
  | .exit id, _, W' => KeepsFrom B W W' ∧ Ix (.exit id) xs W'
  | .goto t, _, W' => KeepsFrom B W W' ∧ Ix (.goto t) xs W'
  | .panic _, _, _ => False
  | .outgrown, _, _ => False

variable {F : Fence} {n : Nat} {P : Program}

set_option maxHeartbeats 1000000 in
/-- **A loop within a round of loop l₀.** -/
theorem wpIn_loop_inner {α : Type} {g : Operand} {ps : Array Tmp} {assign body : Code} {Q : Exit → Act → World → Prop} {a : Act} {w : World} {l₀ : Nat} {r₀ : Loop} (hro : F.round = some l₀) (hl₀ : w.heap[l₀]? = some (.loop r₀)) (h1 : 1 ≤ n)
    {gf : Nat} {lb : Array Value} (hg : a.eval g = .func (.func gf) #[] lb) (hFg : F.fn gf) (eg : ∀ args w, (callFunc gf args).run P w = .ok (.enter gf args) w)
    {encs : α → Array Value} {xs : List α} {w0 : World} (hseq : SeqRuns0 F (n - 1) P gf lb encs xs w0) (hb0 : Below w0.heap.size w0 w) (hps : ∀ x, (encs x).size = ps.size)
    (I : List α → World → Prop) (Ix : Code → List α → World → Prop) (hI : OwnFrom w.heap.size I) (hIx : ∀ c, OwnFrom w.heap.size (Ix c)) (h0 : I [] w)
    (Ax : α → Act → World → Prop) (hAx : ∀ x a', OwnFrom w.heap.size (fun (_ : Unit) W => Ax x a' W))
    (hassign : ∀ (l : Nat) (pre : List α) (x : α) (W : World) (K : Act → World → Prop), I pre W → (∀ a' W', KeepsFrom w.heap.size W W' → I pre W' → Ax x a' W' → K a' W') →
      assign.wpIn (F.inRound l) (n - 1 - 1) P (Exit.then K (fun _ _ _ => False)) { tmps := (ps.zip (encs x)).foldl (fun t (p, v) => t.setIfInBounds p v) a.tmps, defers := [] } W)
    (hbody : ∀ (l : Nat) (pre : List α) (x : α) (a' : Act) (W : World), w.heap.size ≤ l → (∃ r, W.heap[l]? = some (.loop r)) → I pre W → Ax x a' W → pre ++ [x] <+: xs →
      body.wpIn (F.inRound l) (n - 1 - 1) P (innerPost w.heap.size I Ix (pre ++ [x]) W) a' W)
    (hdone : ∀ (W : World), I xs W → Q .normal a W)
    (hstop : ∀ (c : Code) (pre : List α) (W : World), pre <+: xs → Ix c pre W → c.wpIn F n P Q a W) :
    (Code.rangeFunc g ps assign body).wpIn F n P Q a w := by
  refine wpIn_rangeFunc (fun fn hfn => ?_)
  rw [hro]
  have hmk : ∃ mk : LoopState → Option Code → Loop, mk = fun st pe => { state := st, pending := pe, fn, tmps := a.tmps, params := ps, assign, body, defers := r₀.defers } := ⟨_, rfl⟩
  obtain ⟨mk, hmk⟩ := hmk
  have hst : ∀ st st' pe, { mk st pe with state := st' } = mk st' pe := by rw [hmk]; intros; rfl
  have hst2 : ∀ st st' pe pe', { mk st pe with state := st', pending := pe' } = mk st' pe' := by rw [hmk]; intros; rfl
  have hW1 : ∃ W1, w.alloc (.loop (mk .ready none)) = W1 := ⟨_, rfl⟩
  obtain ⟨W1, hW1⟩ := hW1
  have hL1 : W1.heap[w.heap.size]? = some (.loop (mk .ready none)) := by rw [← hW1]; exact World.alloc_heap_new w _
  have hsz : W1.heap.size = w.heap.size + 1 := by rw [← hW1]; simp
  have hI1 : I [] W1 := by rw [← hW1]; exact hI.alloc _ h0
  have hb1 : Below w0.heap.size w0 W1 := by
    rw [← hW1]
    exact hb0.trans (((Below.refl _ w).alloc (Nat.le_refl _) _).mono hb0.size)
  refine ⟨w.heap.size, [], W1, { target := .fn (.func gf) lb, args := #[.func (.yield w.heap.size) #[] #[]] }, W1, gf, #[.func (.yield w.heap.size) #[] #[]] ++ lb, W1, ?enter, ?value, ?fenced, ?invoke, fun _ => h1, ?run⟩
  case enter => rw [← hW1, hmk]; exact run_enterLoop_inner hl₀ _ _ _ _ _
  case value => simp only [resolve, hg]; simp [go_sem]
  case fenced => intro f' hf'; simp [Target.leads] at hf'; subst hf'; exact hFg
  case invoke => simp [invoke, go_sem, eg]
  case run =>
    have hwid : ∀ {A : World} {row : Option Nat}, (∀ r, row = some r → W1.heap.size ≤ r ∧ ∃ o : Obj, A.heap[r]? = some o ∧ o.isCells = false) → (∀ r, row = some r → w.heap.size ≤ r ∧ ∃ o : Obj, A.heap[r]? = some o ∧ o.isCells = false) :=
      fun hr r e => ⟨by have := (hr r e).1; omega, (hr r e).2⟩
    have hbook : ∀ {A B : World} {row : Option Nat} {o : Obj}, A.heap[w.heap.size]? = some o → A.grownBy B row → (∀ r, row = some r → W1.heap.size ≤ r ∧ ∃ o : Obj, A.heap[r]? = some o ∧ o.isCells = false) → B.heap[w.heap.size]? = some o := fun ho hg' hr =>
      (hg'.block _ (Array.getElem?_eq_some_iff.1 ho).1 (fun e => by have := (hr _ e.symm).1; omega)).trans ho
    refine (hseq w.heap.size (fun pre W => I pre W ∧ W.heap[w.heap.size]? = some (.loop (mk .ready none))) (fun pre W => ∃ c, Ix c pre W ∧ W.heap[w.heap.size]? = some (.loop (mk .done (some c)))) W1 hb1
      (fun s A B row hs hg' hr => ⟨hI s A B row hs.1 hg' (hwid hr), hbook hs.2 hg' hr⟩)
      (fun s A B row hs hg' hr => by obtain ⟨c, hc, hl⟩ := hs; exact ⟨c, hIx c s A B row hc hg' (hwid hr), hbook hl hg' hr⟩)
      ?round ⟨hI1, hL1⟩).mono ?after
    case round =>
      rintro pre x W hpx ⟨hi, hl⟩
      have hy := run_yield (P := P) (args := encs x) hl (by rw [hmk]; exact hps x)
      rw [hmk] at hy
      refine ⟨fn, _, assign, body, hy, roundIn_of_wpIn hfn (hassign _ pre x W _ hi (fun a' V hkf hia hax => ?_))⟩
      have hlV := hkf.same _ _ (Nat.le_refl _) hl rfl
      have hlt : w.heap.size < V.heap.size := (Array.getElem?_eq_some_iff.1 hlV).1
      have hlB : (V.putObj w.heap.size (.loop (mk .busy none))).heap[w.heap.size]? = some (.loop (mk .busy none)) := World.putObj_heap_same hlt
      have hbr : (Instr.beginRound w.heap.size).run P V = _ := run_beginRound hlV (by rw [hmk])
      rw [hst] at hbr
      refine ⟨_, hbr, ?_⟩
      refine wpIn_mono (hbody _ pre x a' _ (Nat.le_refl _) ⟨_, hlB⟩ (hI.putObj _ hia (Nat.le_refl _) hlV rfl) ((hAx x a').putObj (s := ()) _ hax (Nat.le_refl _) hlV rfl) hpx) ?_
      have fin : ∀ (jump : Option Code) (V3 : World), KeepsFrom w.heap.size (V.putObj w.heap.size (.loop (mk .busy none))) V3 →
          (Instr.endRound w.heap.size jump).run P V3 = .ok (.bool jump.isNone) (V3.putObj w.heap.size (.loop (mk (if jump.isNone then .ready else .done) jump))) ∧ V3.heap[w.heap.size]? = some (.loop (mk .busy none)) := fun jump V3 hk3 => by
        have hl3 := hk3.same _ _ (Nat.le_refl _) hlB rfl
        have her := run_endRound (P := P) jump hl3
        rw [hst2] at her
        exact ⟨her, hl3⟩
      rintro e a3 V3 hp
      cases e with
      | normal =>
        obtain ⟨hk3, hi3⟩ := hp
        obtain ⟨hr, hl3⟩ := fin none V3 hk3
        exact ⟨_, _, hr, .inl ⟨rfl, ⟨hI.putObj _ hi3 (Nat.le_refl _) hl3 rfl, World.putObj_heap_same (Array.getElem?_eq_some_iff.1 hl3).1⟩⟩⟩
      | ret =>
        obtain ⟨hk3, hi3⟩ := hp
        obtain ⟨hr, hl3⟩ := fin (some .ret) V3 hk3
        exact ⟨_, _, hr, .inr ⟨rfl, ⟨_, (hIx _).putObj _ hi3 (Nat.le_refl _) hl3 rfl, World.putObj_heap_same (Array.getElem?_eq_some_iff.1 hl3).1⟩⟩⟩
      | exit id =>
        obtain ⟨hk3, hi3⟩ := hp
        obtain ⟨hr, hl3⟩ := fin (some (.exit id)) V3 hk3
        exact ⟨_, _, hr, .inr ⟨rfl, ⟨_, (hIx _).putObj _ hi3 (Nat.le_refl _) hl3 rfl, World.putObj_heap_same (Array.getElem?_eq_some_iff.1 hl3).1⟩⟩⟩
      | goto t =>
        obtain ⟨hk3, hi3⟩ := hp
        obtain ⟨hr, hl3⟩ := fin (some (.goto t)) V3 hk3
        exact ⟨_, _, hr, .inr ⟨rfl, ⟨_, (hIx _).putObj _ hi3 (Nat.le_refl _) hl3 rfl, World.putObj_heap_same (Array.getElem?_eq_some_iff.1 hl3).1⟩⟩⟩
      | panic ch => exact hp.elim
      | outgrown => exact hp.elim
    case after =>
      rintro e W2 ⟨⟨v, rfl⟩, (⟨hi, hl⟩ | ⟨pre, hpre, c, hi, hl⟩)⟩
      · have hel := run_endLoop (P := P) hl (by rw [hmk]; simp)
        rw [show (mk .ready none).pending = none from by rw [hmk]] at hel
        exact ⟨none, _, hel, hdone _ (hI.putObj _ hi (Nat.le_refl _) hl rfl)⟩
      · have hel := run_endLoop (P := P) hl (by rw [hmk]; simp)
        rw [show (mk .done (some c)).pending = some c from by rw [hmk]] at hel
        exact ⟨some c, _, hel, hstop c pre _ hpre ((hIx c).putObj _ hi (Nat.le_refl _) hl rfl)⟩

end Go.Proofs.YtjegkkpdemoldaaGreatDoor
