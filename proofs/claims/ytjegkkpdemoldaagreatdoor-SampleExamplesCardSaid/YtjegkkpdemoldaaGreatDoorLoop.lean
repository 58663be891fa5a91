/-
  A loop over the numbers that can be, which no round leaves early.
-/
import Derived.Test.YtjegkkpdemoldaaGreatDoorAfter
namespace Go.Proofs.YtjegkkpdemoldaaGreatDoor
open Go.RowKit Go.Shelf

theorem KeepNum.step {n M T C Bh Bd : Nat} {A B : World} (h : Step M A B) (hM : M < n) (hh : Bh ≠ M) (hd : Bd ≠ M) (hhl : Bh < A.heap.size) (hdl : Bd < A.heap.size) : KeepNum n M T C Bh Bd A B :=
  ⟨h.grown.size, fun c => c.step h, h.grown.block _ hhl (by simpa using hh), h.grown.block _ hdl (by simpa using hd),
    fun k o hk ho _ => (h.grown.block k (Array.getElem?_eq_some_iff.1 ho).1 (by simp; omega)).trans ho⟩
theorem KeepNum.setCell {n M T C Bh Bd : Nat} (W : World) {p : Addr} (hp : p.block < n) (hh : p.block ≠ Bh) (hd : p.block ≠ Bd) (hT : p.block ≠ T) (hC : p.block ≠ C) (hM : p.block ≠ M) (u : Value) : KeepNum n M T C Bh Bd W (W.setCell p u) :=
  ⟨by simp [World.setCell], fun c => c.set hT hC hM u, Below.heap_setCell _ _ _ _ (fun e => hh e.symm), Below.heap_setCell _ _ _ _ (fun e => hd e.symm),
    fun k o hk ho _ => (Below.heap_setCell _ _ _ _ (by omega)).trans ho⟩
theorem KeepNum.refl {n M T C Bh Bd : Nat} (W : World) : KeepNum n M T C Bh Bd W W := ⟨Nat.le_refl _, fun c => c, rfl, rfl, fun _ _ _ h _ => h⟩
theorem keepsFrom_setCell {B : Nat} (W : World) (p : Addr) (u : Value) : KeepsFrom B W (W.setCell p u) := (KeepsOthers.setCell W p u).from _
/-- A block that is known whole. -/
theorem heap_set {W : World} {g : Nat} {arr : Array Value} {t : TypeId} (h : W.heap[g]? = some (.cells arr t)) (i : Nat) (u : Value) : (W.setCell ⟨g, i, none⟩ u).heap[g]? = some (.cells (arr.setIfInBounds i u) t) := by
  simp [World.setCell, Array.getElem?_modify, h]
theorem heap_frozen {W : World} {g : Nat} {arr : Array Value} {t : TypeId} (h : W.heap[g]? = some (.cells arr t)) (i : Nat) : W.frozen? ⟨g, i, none⟩ = false := by
  simp [World.frozen?, h]
theorem heap_top (w : World) (o : Obj) {b : Nat} (hb : b = w.heap.size) : (w.alloc o).heap[b]? = some o := by subst hb; exact World.alloc_heap_new w o
theorem heap_up {w : World} {b : Nat} {o : Obj} (h : w.heap[b]? = some o) (o' : Obj) : (w.alloc o').heap[b]? = some o := (Below.heap_alloc _ _ _ (Array.getElem?_eq_some_iff.1 h).1).trans h
theorem Step.heap {M : Nat} {w w' : World} (h : Step M w w') {b : Nat} {o : Obj} (hb : w.heap[b]? = some o) (hne : b ≠ M) : w'.heap[b]? = some o :=
  (h.grown.block b (Array.getElem?_eq_some_iff.1 hb).1 (by simpa using hne)).trans hb
theorem Cnt.lt {w : World} {M T C : Nat} (h : Cnt w M T C) : M < w.heap.size ∧ T < w.heap.size ∧ C < w.heap.size :=
  ⟨h.memo.lt, World.block_lt_of_cell? w _ h.told, World.block_lt_of_cell? w _ h.self⟩
theorem cells_not_memo {W : World} {M b : Nat} {arr : Array Value} {t : TypeId} (hM : Memo W M) (h : W.heap[b]? = some (.cells arr t)) : b ≠ M := fun e => by
  obtain ⟨o, ho, hc⟩ := memo_obj hM
  rw [← e, h] at ho
  cases ho
  cases hc

theorem heap_own' {β : Type} {B k : Nat} {g : β → Obj} (hk : k < B) : OwnFrom B (fun (s : β) V => V.heap[k]? = some (g s)) := fun _ _ _ _ hs hg hr =>
  (hg.block k (Array.getElem?_eq_some_iff.1 hs).1 (fun e => by have := (hr k e.symm).1; omega)).trans hs

/-- A row of the call's own is kept. -/
theorem row_apart {W : World} {base size n : Nat} {e : TypeId} {v : Value} {xs : List Value} (h : W.ownsRow base e size v n xs) {row : Option Nat} (hr : ∀ r, row = some r → ∃ o : Obj, W.heap[r]? = some o ∧ o.isCells = false) : v.ownBlock = none ∨ v.ownBlock ≠ row := by
  rcases h.2 with ⟨rfl, _⟩ | ⟨g, cap, cur, rfl, _, hh, _⟩
  · left; rfl
  · right
    intro e
    obtain ⟨o, ho, hc⟩ := hr g e.symm
    rw [hh] at ho
    cases ho
    cases hc
theorem row_own {β : Type} {B base size n : Nat} {e : TypeId} {v : Value} {xs : List Value} : OwnFrom B (fun (_ : β) V => V.ownsRow base e size v n xs) := fun _ _ _ _ hs hg hr =>
  hs.kept hg (row_apart hs (fun r e => (hr r e).2))
theorem Step.row {M : Nat} {W W' : World} (h : Step M W W') (hM : Memo W M) {base size n : Nat} {e : TypeId} {v : Value} {xs : List Value} (hs : W.ownsRow base e size v n xs) : W'.ownsRow base e size v n xs :=
  hs.kept h.grown (row_apart hs (fun r e => by cases e; exact memo_obj hM))
theorem row_ne {W : World} {base size n k : Nat} {e : TypeId} {v : Value} {xs : List Value} (h : W.ownsRow base e size v n xs) (hk : k < base) : some k ≠ v.ownBlock := fun ek => by
  have := (h.lt k ek.symm).1
  omega
theorem keepsFrom_grow {B : Nat} {W W' : World} {base size n : Nat} {e : TypeId} {v : Value} {xs : List Value} (h : W.ownsRow base e size v n xs) (hg : W.grownBy W' v.ownBlock) : KeepsFrom B W W' :=
  ⟨hg.size, fun k o _ ho hc => (hg.block k (Array.getElem?_eq_some_iff.1 ho).1 (fun ek => by
    rcases h.2 with ⟨rfl, _⟩ | ⟨g, cap, cur, rfl, _, hh, _⟩
    · cases ek
    · cases ek
      rw [hh] at ho
      cases ho
      cases hc)).trans ho⟩
theorem KeepNum.grow {N M T C Bh Bd : Nat} {W W' : World} {base size n : Nat} {e : TypeId} {v : Value} {xs : List Value} (h : W.ownsRow base e size v n xs) (hg : W.grownBy W' v.ownBlock) (he : e ≠ 137)
    (hM : M < base) (hT : T < base) (hC : C < base) (hh : Bh < base) (hd : Bd < base) (hhl : Bh < W.heap.size) (hdl : Bd < W.heap.size) : KeepNum N M T C Bh Bd W W' := by
  have hne : ∀ k, k < base → some k ≠ v.ownBlock := fun k hk ek => by
    have := h.lt k ek.symm
    omega
  refine ⟨hg.size, fun c => ⟨hg.cell c.told (hne T hT), hg.cell c.self (hne C hC), c.memo.kept (hg.block M c.memo.lt (hne M hM))⟩, hg.block _ hhl (hne Bh hh), hg.block _ hdl (hne Bd hd), fun k o _ ho hq => (hg.block k (Array.getElem?_eq_some_iff.1 ho).1 (fun ek => ?_)).trans ho⟩
  rcases h.2 with ⟨rfl, _⟩ | ⟨g, cap, cur, rfl, _, hh', _⟩
  · cases ek
  · cases ek
    rw [hh'] at ho
    cases ho
    rcases hq with hq | ⟨arr, hq⟩
    · cases hq
    · cases hq
      exact he rfl

theorem Step.row_grow {M base size n : Nat} {e : TypeId} {v : Value} {xs : List Value} {w W W' : World} (h : Step M w W) (ho : W.ownsRow base e size v n xs) (hg : W.grownBy W' v.ownBlock) (hb : w.heap.size ≤ base) (hM : M < w.heap.size) : Step M w W' := by
  have hlt := ho.lt
  cases hr : v.ownBlock with
  | none => rw [hr] at hg; exact h.grew hg
  | some g => rw [hr] at hg; exact h.turned hg (by have := (hlt g hr).1; omega) hM

/-- An append to a row of the call's own, whose value lies in a box. -/
theorem push_close {N M T C Bh Bd base size n m Lb : Nat} {e T' : TypeId} {v v' : Value} {xs ys : List Value} {w U w1 : World} {ob : Obj}
    (hc : Cnt U M T C) (hst : Step M w U) (hLb : U.heap[Lb]? = some (.cells #[v] T')) (hown : U.ownsRow base e size v n xs) (hg : (U.alloc ob).grownBy w1 v.ownBlock) (hown' : w1.ownsRow base e size v' m ys)
    (hM : M < w.heap.size) (hT : T < w.heap.size) (hC : C < w.heap.size) (hL0 : w.heap.size ≤ Lb) (hL1 : Lb < base) (hN : Lb < N) (hh : Bh < base) (hd : Bd < base) (hLh : Lb ≠ Bh) (hLd : Lb ≠ Bd) (hhl : Bh < U.heap.size) (hdl : Bd < U.heap.size) (hhM : Bh ≠ M) (hdM : Bd ≠ M) (he : e ≠ 137) :
    (∀ B, KeepsFrom B U (w1.setCell ⟨Lb, 0, none⟩ v')) ∧ KeepNum N M T C Bh Bd U (w1.setCell ⟨Lb, 0, none⟩ v') ∧ (w1.setCell ⟨Lb, 0, none⟩ v').heap[Lb]? = some (.cells #[v'] T') ∧ (w1.setCell ⟨Lb, 0, none⟩ v').ownsRow base e size v' m ys ∧
      (∀ k o, k < base → k ≠ Lb → U.heap[k]? = some o → (w1.setCell ⟨Lb, 0, none⟩ v').heap[k]? = some o) ∧ Step M w (w1.setCell ⟨Lb, 0, none⟩ v') := by
  have hown2 := hown.alloc ob
  have hkA : ∀ B, KeepsFrom B U (U.alloc ob) := fun B => KeepsFrom.of_grownBy (World.grownBy_alloc U ob none) (fun j e => by cases e)
  have hkeep : ∀ k o, k < base → U.heap[k]? = some o → w1.heap[k]? = some o := fun k o hk ho =>
    (hg.block k (Array.getElem?_eq_some_iff.1 (heap_up ho ob)).1 (row_ne hown hk)).trans (heap_up ho ob)
  have hnA : KeepNum N M T C Bh Bd U (U.alloc ob) := KeepNum.step ((Step.refl hc.memo).alloc ob) (by omega) hhM hdM hhl hdl
  have hnG : KeepNum N M T C Bh Bd (U.alloc ob) w1 := KeepNum.grow hown2 hg he (by omega) (by omega) (by omega) hh hd (by simp; omega) (by simp; omega)
  refine ⟨fun B => (hkA B).trans ((keepsFrom_grow hown2 hg).trans (keepsFrom_setCell _ _ _)), hnA.trans (hnG.trans (KeepNum.setCell _ hN hLh hLd (by simp; omega) (by simp; omega) (by simp; omega) _)), heap_set (hkeep Lb _ hL1 hLb) 0 _, ?_,
    fun k o hk hne ho => (Below.heap_setCell _ _ _ _ hne).trans (hkeep k o hk ho), (Step.row_grow (hst.alloc ob) hown2 hg (by omega) hM).setCell (p := ⟨Lb, 0, none⟩) hL0 hM _⟩
  refine ⟨hown'.1, ?_⟩
  rcases hown'.2 with h | ⟨g, cap, cur, hv, hb, hh', r⟩
  · exact .inl h
  · exact .inr ⟨g, cap, cur, hv, hb, (Below.heap_setCell _ _ _ _ (by simp; omega)).trans hh', r⟩

set_option maxRecDepth 100000 in
set_option maxHeartbeats 1000000 in
theorem wpIn_over_numbers (m : Nat) {g : Operand} {ps : Array Tmp} {assign body : Code} {Q : Exit → Act → World → Prop} {a : Act} {w : World} {b M T C Bh Bd : Nat} {lo hi o f : Int} (hb : b ≤ 36) (ho0 : 0 ≤ o) (ho : o ≤ 36) (hf0 : 0 ≤ f) (hf : f ≤ 36)
    (hw : Cnt w M T C) (hh : w.heap[Bh]? = some (.cells #[.int .i64 b, .int .i64 lo, .int .i64 hi, setsV T C] 82)) (hd : w.heap[Bd]? = some (.cells #[.int .i64 o, .int .i64 f] 37))
    (hg : a.eval g = .func (.func 78) #[] #[.pointer (some ⟨Bh, 0, none⟩), .pointer (some ⟨Bd, 0, none⟩)]) (hps : ps.size = 1)
    (I : List Int → World → Prop) (hI : OwnFrom w.heap.size I) (hIT : ∀ s A B, Cnt A M T C → I s A → Step M A B → I s B) (h0 : I [] w)
    (Ax : Int → Act → Prop)
    (hassign : ∀ (l : Nat) (x : Int) (W : World) (K : Act → World → Prop), (∀ a', Ax x a' → K a' W) →
      assign.wpIn (Fence.wide.inRound l) (m + 2) Tryz.prog (Exit.then K (fun _ _ _ => False)) { tmps := (ps.zip #[.int .i64 x]).foldl (fun t (p, v) => t.setIfInBounds p v) a.tmps, defers := [] } W)
    (hbody : ∀ (l : Nat) (pre : List Int) (x : Int) (a' : Act) (W : World), w.heap.size ≤ l → pre ++ [x] <+: Pure.nums b lo hi o f → Ax x a' → Cnt W M T C →
      W.heap[Bh]? = some (.cells #[.int .i64 b, .int .i64 lo, .int .i64 hi, setsV T C] 82) → W.heap[Bd]? = some (.cells #[.int .i64 o, .int .i64 f] 37) → I pre W →
      body.wpIn (Fence.wide.inRound l) (m + 2) Tryz.prog (roundPost w.heap.size (KeepNum (w.heap.size + 2) M T C Bh Bd) I (fun _ _ _ => False) (pre ++ [x]) W) a' W)
    (hdone : ∀ (D : Nat) (W : World), w.heap.size ≤ D → Cnt W M T C → I (Pure.nums b lo hi o f) W → W.heap[D]? = some (.deferred (some [])) → Q .normal { a with defers := { target := .collected D, args := #[] } :: a.defers } W) :
    (Code.rangeFunc g ps assign body).wpIn Fence.wide (m + 4) Tryz.prog Q a w := by
  have hM := hw.lt.1
  have hhl : Bh < w.heap.size := (Array.getElem?_eq_some_iff.1 hh).1
  have hdl : Bd < w.heap.size := (Array.getElem?_eq_some_iff.1 hd).1
  have hhM : Bh ≠ M := cells_not_memo hw.memo hh
  have hdM : Bd ≠ M := cells_not_memo hw.memo hd
  refine wpIn_loop_runs (n := m + 4) rfl (by omega) (gf := 78) (lb := #[.pointer (some ⟨Bh, 0, none⟩), .pointer (some ⟨Bd, 0, none⟩)]) hg trivial (enters_of Tryz.func78 (by kernel_rfl) rfl)
    (numbers_runs m b M T C Bh Bd lo hi o f hb ho0 ho hf0 hf w hw hh hd) (Below.refl _ _) (fun _ => hps.symm) (fun h k => h.trans k)
    (fun W o o' h1 h2 h3 => KeepNum.put o' (by omega) (by omega) (by omega) h1 h2 h3) (fun _ _ h => h.keeps hM)
    (fun pre V => I pre V ∧ Cnt V M T C ∧ V.heap[Bh]? = some (.cells #[.int .i64 b, .int .i64 lo, .int .i64 hi, setsV T C] 82) ∧ V.heap[Bd]? = some (.cells #[.int .i64 o, .int .i64 f] 37))
    (fun _ _ _ => False)
    (OwnFrom.and hI (OwnFrom.and (cnt_own hM) (OwnFrom.and (heap_own hhl) (heap_own hdl))))
    (fun _ _ _ _ _ hs _ _ => hs)
    (fun s A B hs hst => ⟨hIT s A B hs.2.1 hs.1 hst, hs.2.1.step hst, hst.heap hs.2.2.1 hhM, hst.heap hs.2.2.2 hdM⟩) ⟨h0, hw, hh, hd⟩
    (fun x a' _ => Ax x a') (fun _ _ _ _ _ _ hs _ _ => hs) ?assign ?body ?done ?stop
  case assign =>
    intro l pre x W K hi hK
    exact hassign l x W _ (fun a' ha => hK a' W (KeepsFrom.refl _ _) (KeepNum.refl _) hi ha)
  case body =>
    rintro l pre x a' W hl _ ⟨hi, hc, h1, h2⟩ hax hpx
    refine wpIn_mono (hbody l pre x a' W hl hpx hax hc h1 h2 hi) ?_
    rintro e a3 V hp
    cases e with
    | normal => exact ⟨hp.1, hp.2.1, hp.2.2, hp.2.1.cnt hc, hp.2.1.hold.trans h1, hp.2.1.draw.trans h2⟩
    | ret => exact hp.2.2.elim
    | exit id => exact hp.2.2.elim
    | goto t => exact hp.2.2.elim
    | panic ch => exact hp
    | outgrown => exact hp
  case done =>
    rintro D W hD ⟨hi, hc, _⟩ hK
    exact hdone D W hD hc hi hK
  case stop =>
    rintro D c pre W hD _ hx _
    exact hx.elim

end Go.Proofs.YtjegkkpdemoldaaGreatDoor
