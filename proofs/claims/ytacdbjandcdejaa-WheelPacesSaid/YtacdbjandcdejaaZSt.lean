/-
  What stands of the law's own copies: a plan, water, wheels, a train, and two boxes.
-/
import Derived.Test.YtacdbjandcdejaaZRPace
import Derived.Test.YtacdbjandcdejaaGLaw
namespace Go.Proofs.Ytacdbjandcdejaa
open Go.RowKit

/-- What the law copies. -/
structure LData where
  p : PlanX
  T : Nat → Int
  A : Nat → Int
  S : Nat → Int
  m : Nat
  X : Nat → Int
  n : Nat
  F : Nat → Int
  ln : Nat
  L : Nat → Int
/-- What stands so far: the plan, the water, the wheels, the train, and the two boxes. -/
structure LSt (base : Nat) (w : World) (q : LData) (C : Option (Option Addr × Nat × Option Addr × Nat × Option Addr × Nat)) (B : Option (Option Addr × Nat × Nat)) (D : Option (Option Addr × Nat)) (E : Option (Option Addr × Nat × Nat)) (G H : Option Nat) : Prop where
  c : ∀ a1 k1 a2 k2 a3 k3, C = some (a1, k1, a2, k2, a3, k3) → OwnPlan w base (q.p.moved a1 k1 a2 k2 a3 k3) q.T q.A q.S
  b : ∀ a n k, B = some (a, n, k) → OwnNums w base 3 1 a n k q.X
  d : ∀ a k, D = some (a, k) → OwnNums w base 3 1 a q.n k q.F
  e : ∀ a n k, E = some (a, n, k) → OwnNums w base 63 2 a n k q.L
  g : ∀ x, G = some x → w.heap[x]? = some (planB noPlan) ∧ base ≤ x
  h : ∀ x, H = some x → w.heap[x]? = some (wheelsB none 0 0) ∧ base ≤ x
  ap : ∀ a1 k1 a2 k2 a3 k3 a n k, C = some (a1, k1, a2, k2, a3, k3) → B = some (a, n, k) → Apart a1 a
section
variable {base : Nat} {w w' : World} {q : LData} {C : Option (Option Addr × Nat × Option Addr × Nat × Option Addr × Nat)} {B E : Option (Option Addr × Nat × Nat)} {D : Option (Option Addr × Nat)} {G H : Option Nat}
theorem LSt.below (h : LSt base w q C B D E G H) (hb : Below w.heap.size w w') : LSt base w' q C B D E G H :=
  ⟨fun _ _ _ _ _ _ g => (h.c _ _ _ _ _ _ g).below hb, fun _ _ _ g => (h.b _ _ _ g).below hb, fun _ _ g => (h.d _ _ g).below hb, fun _ _ _ g => (h.e _ _ _ g).below hb, fun _ g => ⟨heap_lft (h.g _ g).1 hb, (h.g _ g).2⟩, fun _ g => ⟨heap_lft (h.h _ g).1 hb, (h.h _ g).2⟩, h.ap⟩
theorem lst_start (base : Nat) (w : World) (q : LData) : LSt base w q none none none none none none :=
  ⟨fun _ _ _ _ _ _ g => (by cases g), fun _ _ _ g => (by cases g), fun _ _ g => (by cases g), fun _ _ _ g => (by cases g), fun _ g => (by cases g), fun _ g => (by cases g), fun _ _ _ _ _ _ _ _ _ g => (by cases g)⟩
theorem LSt.setC (h : LSt base w q none B D E G H) (hb : Below w.heap.size w w') (hs : base ≤ w.heap.size) {a1 : Option Addr} {k1 : Nat} {a2 : Option Addr} {k2 : Nat} {a3 : Option Addr} {k3 : Nat} (ho : OwnPlan w' w.heap.size (q.p.moved a1 k1 a2 k2 a3 k3) q.T q.A q.S) : LSt base w' q (some (a1, k1, a2, k2, a3, k3)) B D E G H :=
  have g := h.below hb
  ⟨fun _ _ _ _ _ _ e => (by cases e; exact ⟨ho.t.base hs, ho.a.base hs, ho.s.base hs⟩), g.b, g.d, g.e, g.g, g.h, fun _ _ _ _ _ _ a n k e1 e2 => (by
    cases e1
    intro x y hx hy e
    have h1 := ((h.b a n k e2).lt y hy).2
    have h2 := (ho.t.lt x hx).1
    omega)⟩
theorem LSt.setD (h : LSt base w q C B none E G H) (hb : Below w.heap.size w w') (hs : base ≤ w.heap.size) {a : Option Addr} {k : Nat} (ho : OwnNums w' w.heap.size 3 1 a q.n k q.F) : LSt base w' q C B (some (a, k)) E G H :=
  have g := h.below hb
  ⟨g.c, g.b, fun _ _ e => (by cases e; exact ho.base hs), g.e, g.g, g.h, g.ap⟩
theorem LSt.newB (h : LSt base w q C none D E G H) (hs : base ≤ w.heap.size) : LSt base (w.alloc (.cells #[] 3)) q C (some (some ⟨w.heap.size, 0, none⟩, 0, 0)) D E G H :=
  have g := h.below (below_new w (.cells #[] 3))
  ⟨g.c, fun _ _ _ e => (by cases e; exact own_empty _ _ _ rfl hs _), g.d, g.e, g.g, g.h, fun _ _ _ _ _ _ _ _ _ e1 e2 => (by
    cases e2
    intro x y hx hy e
    cases hy
    have h1 := ((h.c _ _ _ _ _ _ e1).t.lt x hx).2
    dsimp only at e
    omega)⟩
theorem LSt.newE (h : LSt base w q C B D none G H) (hs : base ≤ w.heap.size) : LSt base (w.alloc (.cells #[] 63)) q C B D (some (some ⟨w.heap.size, 0, none⟩, 0, 0)) G H :=
  have g := h.below (below_new w (.cells #[] 63))
  ⟨g.c, g.b, g.d, fun _ _ _ e => (by cases e; exact own_empty _ _ _ rfl hs _), g.g, g.h, g.ap⟩
theorem LSt.newG (h : LSt base w q C B D E none H) (hs : base ≤ w.heap.size) : LSt base (w.alloc (planB noPlan)) q C B D E (some w.heap.size) H :=
  have g := h.below (below_new w (planB noPlan))
  ⟨g.c, g.b, g.d, g.e, fun _ e => (by cases e; exact ⟨heap_top _ _ rfl, hs⟩), g.h, g.ap⟩
theorem LSt.newH (h : LSt base w q C B D E G none) (hs : base ≤ w.heap.size) : LSt base (w.alloc (wheelsB none 0 0)) q C B D E G (some w.heap.size) :=
  have g := h.below (below_new w (wheelsB none 0 0))
  ⟨g.c, g.b, g.d, g.e, g.g, fun _ e => (by cases e; exact ⟨heap_top _ _ rfl, hs⟩), g.ap⟩
/-- What is of another type than what was written stays. -/
theorem nums_moved {t t' : TypeId} {k : Nat} {a x : Option Addr} {len cap : Nat} {F : Nat → Int} (h : OwnNums w base t k a len cap F) (hx : ∀ y, x = some y → ∃ cu, w.heap[y.block]? = some (.cells cu t')) (ht : t ≠ t') (hal : Alone x w w') : OwnNums w' base t k a len cap F :=
  h.kept fun y hy => hal _ (h.lt y hy).2 fun z hz => by
    obtain ⟨cu, hc⟩ := hx z hz
    exact h.ne hc ht y hy
theorem box_moved {t t' : TypeId} {x : Option Addr} {B : Nat} {arr : Array Value} (h : w.heap[B]? = some (.cells arr t)) (hx : ∀ y, x = some y → ∃ cu, w.heap[y.block]? = some (.cells cu t')) (ht : t ≠ t') (hal : Alone x w w') : w'.heap[B]? = some (.cells arr t) :=
  (hal _ (Array.getElem?_eq_some_iff.1 h).1 fun z hz e => by
    obtain ⟨cu, hc⟩ := hx z hz
    rw [← e, h] at hc
    simp only [Option.some.injEq, Obj.cells.injEq] at hc
    exact ht hc.2.1).trans h
theorem OwnNums.typed {t : TypeId} {k : Nat} {a : Option Addr} {len cap : Nat} {F : Nat → Int} (h : OwnNums w base t k a len cap F) (y : Addr) (hy : a = some y) : ∃ cu, w.heap[y.block]? = some (.cells cu t) := by
  obtain ⟨_, ⟨h1, _⟩ | ⟨g', cap', cur, he, hbase, hg, _⟩⟩ := h
  · simp only [Value.slice.injEq] at h1
    rw [hy] at h1
    cases h1.1
  · simp only [Value.slice.injEq] at he
    rw [hy] at he
    cases he.1
    exact ⟨cur, hg⟩
theorem LSt.appB {x : Option Addr} {k : Nat} (h : LSt base w q C (some (x, 0, k)) none E G H) {wa : Option Addr} {wc : Nat} (hs : NumsAt w wa q.m q.X) (hnil : wa = none → q.m = 0) (hl : q.m ≤ 40) (hb : base ≤ w.heap.size) (ty : TypeId) :
    ∃ x' k' w', (Builtin.append_ #[22, 22] ty #[.slice x 0 k, .slice wa q.m wc]).run Try.prog w = .ok (.slice x' q.m k') w' ∧ LSt base w' q C (some (x', q.m, k')) none E G H ∧ Below base w w' := by
  obtain ⟨i0, hi, hz0, hz1, hz2⟩ := infoInt
  obtain ⟨x', k', w', hr, ho, hal, hbe, hnw⟩ := app_own w base 3 22 ty 1 8 i0 _ Try.underlying22 hi hz0 hz1 hz2 rfl (by decide) (by decide) (h.b x 0 k rfl) wa q.m wc q.X (by simpa using hs) hnil (by omega) (by omega) hb
  have hcx := (h.b x 0 k rfl).typed
  rw [Nat.zero_add] at hr ho
  have ho2 := ho.congr (G := q.X) (fun i hi => by simp [joinF])
  refine ⟨x', k', w', hr, ⟨fun _ _ _ _ _ _ g => ?_, fun _ _ _ g => (by cases g; exact ho2), fun _ _ g => (by cases g), fun _ _ _ g => nums_moved (h.e _ _ _ g) hcx (by decide) hal, fun _ g => ⟨box_moved (h.g _ g).1 hcx (by decide) hal, (h.g _ g).2⟩, fun _ g => ⟨box_moved (h.h _ g).1 hcx (by decide) hal, (h.h _ g).2⟩, fun _ _ _ _ _ _ _ _ _ e1 e2 => ?_⟩, hbe⟩
  · have hc := h.c _ _ _ _ _ _ g
    exact ⟨hc.t.kept fun y hy => hal _ (hc.t.lt y hy).2 fun z hz => h.ap _ _ _ _ _ _ _ _ _ g rfl y z hy hz, nums_moved hc.a hcx (by decide) hal, nums_moved hc.s hcx (by decide) hal⟩
  · cases e2
    intro y z hy hz e
    have hc := h.c _ _ _ _ _ _ e1
    rcases hnw z hz with g | g
    · exact h.ap _ _ _ _ _ _ _ _ _ e1 rfl y z hy g e
    · have := (hc.t.lt y hy).2
      omega
theorem LSt.appE {x : Option Addr} {k : Nat} (h : LSt base w q C B D (some (x, 0, k)) G H) {la : Option Addr} {lc : Nat} (hs : NumsAt w la (q.ln * 2) q.L) (hnil : la = none → q.ln = 0) (hl : q.ln ≤ 10) (hb : base ≤ w.heap.size) (ty : TypeId) :
    ∃ x' k' w', (Builtin.append_ #[29, 29] ty #[.slice x 0 k, .slice la q.ln lc]).run Try.prog w = .ok (.slice x' q.ln k') w' ∧ LSt base w' q C B D (some (x', q.ln, k')) G H ∧ Below base w w' := by
  obtain ⟨i0, hi, hz0, hz1, hz2⟩ := infoPair
  obtain ⟨x', k', w', hr, ho, hal, hbe, _⟩ := app_own w base 63 29 ty 2 16 i0 _ Try.underlying29 hi hz0 hz1 hz2 rfl (by decide) (by decide) (h.e x 0 k rfl) la q.ln lc q.L hs hnil (by omega) (by omega) hb
  have hcx := (h.e x 0 k rfl).typed
  rw [Nat.zero_add] at hr ho
  have ho2 := ho.congr (G := q.L) (fun i hi => by simp [joinF])
  refine ⟨x', k', w', hr, ⟨fun _ _ _ _ _ _ g => ?_, fun _ _ _ g => nums_moved (h.b _ _ _ g) hcx (by decide) hal, fun _ _ g => nums_moved (h.d _ _ g) hcx (by decide) hal, fun _ _ _ g => (by cases g; exact ho2), fun _ g => ⟨box_moved (h.g _ g).1 hcx (by decide) hal, (h.g _ g).2⟩, fun _ g => ⟨box_moved (h.h _ g).1 hcx (by decide) hal, (h.h _ g).2⟩, h.ap⟩, hbe⟩
  have hc := h.c _ _ _ _ _ _ g
  exact ⟨nums_moved hc.t hcx (by decide) hal, nums_moved hc.a hcx (by decide) hal, nums_moved hc.s hcx (by decide) hal⟩
end

end Go.Proofs.Ytacdbjandcdejaa
