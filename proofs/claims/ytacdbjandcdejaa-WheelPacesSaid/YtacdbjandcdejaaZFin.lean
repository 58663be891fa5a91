/-
  What the law's copies come to: both boxes are filled.
-/
import Derived.Test.YtacdbjandcdejaaZSt
namespace Go.Proofs.Ytacdbjandcdejaa
open Go.RowKit

/-- A plan is written into a box, field by field. -/
def putPlan (w : World) (x : Nat) (p : PlanX) : World := ((((((w.setCell ⟨x, 0, none⟩ (.int .i64 p.fr)).setCell ⟨x, 1, none⟩ (.slice p.ta p.tn p.tc)).setCell ⟨x, 2, none⟩ (.int .i64 p.sd)).setCell ⟨x, 3, none⟩ (.int .i64 p.ck)).setCell ⟨x, 4, none⟩ (.slice p.aa p.an p.ac)).setCell ⟨x, 5, none⟩ (.slice p.sa p.sn p.sc)).setCell ⟨x, 6, none⟩ (.int .i64 p.bu)
theorem seven_set {w : World} {x : Nat} {t : TypeId} {u0 u1 u2 u3 u4 u5 u6 : Value} (v0 v1 v2 v3 v4 v5 v6 : Value) (h : w.heap[x]? = some (.cells #[u0, u1, u2, u3, u4, u5, u6] t)) : (((((((w.setCell ⟨x, 0, none⟩ v0).setCell ⟨x, 1, none⟩ v1).setCell ⟨x, 2, none⟩ v2).setCell ⟨x, 3, none⟩ v3).setCell ⟨x, 4, none⟩ v4).setCell ⟨x, 5, none⟩ v5).setCell ⟨x, 6, none⟩ v6).heap[x]? = some (.cells #[v0, v1, v2, v3, v4, v5, v6] t) := by
  have h1 : (w.setCell ⟨x, 0, none⟩ v0).heap[x]? = some (.cells #[v0, u1, u2, u3, u4, u5, u6] t) := heap_set h 0 v0
  have h2 : ((w.setCell ⟨x, 0, none⟩ v0).setCell ⟨x, 1, none⟩ v1).heap[x]? = some (.cells #[v0, v1, u2, u3, u4, u5, u6] t) := heap_set h1 1 v1
  have h3 : (((w.setCell ⟨x, 0, none⟩ v0).setCell ⟨x, 1, none⟩ v1).setCell ⟨x, 2, none⟩ v2).heap[x]? = some (.cells #[v0, v1, v2, u3, u4, u5, u6] t) := heap_set h2 2 v2
  have h4 : ((((w.setCell ⟨x, 0, none⟩ v0).setCell ⟨x, 1, none⟩ v1).setCell ⟨x, 2, none⟩ v2).setCell ⟨x, 3, none⟩ v3).heap[x]? = some (.cells #[v0, v1, v2, v3, u4, u5, u6] t) := heap_set h3 3 v3
  have h5 : (((((w.setCell ⟨x, 0, none⟩ v0).setCell ⟨x, 1, none⟩ v1).setCell ⟨x, 2, none⟩ v2).setCell ⟨x, 3, none⟩ v3).setCell ⟨x, 4, none⟩ v4).heap[x]? = some (.cells #[v0, v1, v2, v3, v4, u5, u6] t) := heap_set h4 4 v4
  have h6 : ((((((w.setCell ⟨x, 0, none⟩ v0).setCell ⟨x, 1, none⟩ v1).setCell ⟨x, 2, none⟩ v2).setCell ⟨x, 3, none⟩ v3).setCell ⟨x, 4, none⟩ v4).setCell ⟨x, 5, none⟩ v5).heap[x]? = some (.cells #[v0, v1, v2, v3, v4, v5, u6] t) := heap_set h5 5 v5
  have h7 : (((((((w.setCell ⟨x, 0, none⟩ v0).setCell ⟨x, 1, none⟩ v1).setCell ⟨x, 2, none⟩ v2).setCell ⟨x, 3, none⟩ v3).setCell ⟨x, 4, none⟩ v4).setCell ⟨x, 5, none⟩ v5).setCell ⟨x, 6, none⟩ v6).heap[x]? = some (.cells #[v0, v1, v2, v3, v4, v5, v6] t) := heap_set h6 6 v6
  exact h7
theorem putPlan_at {w : World} {x : Nat} {r : PlanX} (h : w.heap[x]? = some (planB r)) (p : PlanX) : (putPlan w x p).heap[x]? = some (planB p) := seven_set _ _ _ _ _ _ _ h
theorem putPlan_other {w : World} {x i : Nat} (p : PlanX) (hne : i ≠ x) : (putPlan w x p).heap[i]? = w.heap[i]? :=
  (Below.heap_setCell _ _ _ _ hne).trans ((Below.heap_setCell _ _ _ _ hne).trans ((Below.heap_setCell _ _ _ _ hne).trans ((Below.heap_setCell _ _ _ _ hne).trans ((Below.heap_setCell _ _ _ _ hne).trans ((Below.heap_setCell _ _ _ _ hne).trans (Below.heap_setCell _ _ _ _ hne))))))
theorem putPlan_below {base x : Nat} {w0 w : World} (p : PlanX) (hb : Below base w0 w) (hx : base ≤ x) : Below base w0 (putPlan w x p) :=
  ((((((hb.setCell hx _).setCell hx _).setCell hx _).setCell hx _).setCell hx _).setCell hx _).setCell hx _
/-- What stands of the law's copies at the end. -/
structure LOwn (base : Nat) (w : World) (q : LData) (xg xh : Nat) (a1 : Option Addr) (k1 : Nat) (a2 : Option Addr) (k2 : Nat) (a3 : Option Addr) (k3 : Nat) (bb : Option Addr) (bk : Nat) (dd : Option Addr) (dk : Nat) (ee : Option Addr) (ek : Nat) : Prop where
  c : OwnPlan w base (q.p.moved a1 k1 a2 k2 a3 k3) q.T q.A q.S
  b : OwnNums w base 3 1 bb q.m bk q.X
  d : OwnNums w base 3 1 dd q.n dk q.F
  e : OwnNums w base 63 2 ee q.ln ek q.L
  g : w.heap[xg]? = some (planB (q.p.moved a1 k1 a2 k2 a3 k3))
  h : w.heap[xh]? = some (wheelsB dd q.n dk)
section
variable {base : Nat} {w w' : World} {q : LData} {xg xh : Nat} {a1 : Option Addr} {k1 : Nat} {a2 : Option Addr} {k2 : Nat} {a3 : Option Addr} {k3 : Nat} {bb : Option Addr} {bk : Nat} {dd : Option Addr} {dk : Nat} {ee : Option Addr} {ek : Nat}
theorem LOwn.below (h : LOwn base w q xg xh a1 k1 a2 k2 a3 k3 bb bk dd dk ee ek) (hb : Below w.heap.size w w') : LOwn base w' q xg xh a1 k1 a2 k2 a3 k3 bb bk dd dk ee ek :=
  ⟨h.c.below hb, h.b.below hb, h.d.below hb, h.e.below hb, heap_lft h.g hb, heap_lft h.h hb⟩
theorem nums_put {t : TypeId} {k : Nat} {a : Option Addr} {len cap : Nat} {F : Nat → Int} (h : OwnNums w base t k a len cap F) {r : PlanX} {x : Option Addr} {n c : Nat} (hg : w.heap[xg]? = some (planB r)) (hh : w.heap[xh]? = some (wheelsB x n c)) (t1 : t ≠ 26) (t2 : t ≠ 28) (p : PlanX) (u : Value) : OwnNums ((putPlan w xg p).setCell ⟨xh, 0, none⟩ u) base t k a len cap F :=
  h.kept fun y hy => (Below.heap_setCell _ _ _ _ (h.ne hh t2 y hy)).trans (putPlan_other p (h.ne hg t1 y hy))
theorem box_ne {r : PlanX} {x : Option Addr} {n c : Nat} (hg : w.heap[xg]? = some (planB r)) (hh : w.heap[xh]? = some (wheelsB x n c)) : xh ≠ xg := fun e => by
  rw [e, hg] at hh
  simp only [Option.some.injEq, Obj.cells.injEq] at hh
  exact absurd hh.2.1 (by decide)
theorem LSt.put (h : LSt base w q (some (a1, k1, a2, k2, a3, k3)) (some (bb, q.m, bk)) (some (dd, dk)) (some (ee, q.ln, ek)) (some xg) (some xh)) : LOwn base ((putPlan w xg (q.p.moved a1 k1 a2 k2 a3 k3)).setCell ⟨xh, 0, none⟩ (.slice dd q.n dk)) q xg xh a1 k1 a2 k2 a3 k3 bb bk dd dk ee ek := by
  have hg := (h.g _ rfl).1
  have hh := (h.h _ rfl).1
  have hc := h.c _ _ _ _ _ _ rfl
  exact ⟨⟨nums_put hc.t hg hh (by decide) (by decide) _ _, nums_put hc.a hg hh (by decide) (by decide) _ _, nums_put hc.s hg hh (by decide) (by decide) _ _⟩, nums_put (h.b _ _ _ rfl) hg hh (by decide) (by decide) _ _, nums_put (h.d _ _ rfl) hg hh (by decide) (by decide) _ _, nums_put (h.e _ _ _ rfl) hg hh (by decide) (by decide) _ _, (Below.heap_setCell _ _ _ _ (box_ne hg hh).symm).trans (putPlan_at hg _), heap_set ((putPlan_other _ (box_ne hg hh)).trans hh) 0 _⟩
end
/-- A slice that is nil is empty. -/
theorem own_nil0 {w : World} {base : Nat} {t : TypeId} {k : Nat} {a : Option Addr} {len cap : Nat} {F : Nat → Int} (h : OwnNums w base t k a len cap F) (e : a = none) : len = 0 ∧ cap = 0 := by
  obtain ⟨_, ⟨h1, h2⟩ | ⟨_, _, _, he, _⟩⟩ := h
  · simp only [Value.slice.injEq] at h1
    exact ⟨h2, h1.2.2⟩
  · simp only [Value.slice.injEq] at he
    rw [e] at he
    cases he.1
theorem OwnPlan.nil0 {w : World} {base : Nat} {p : PlanX} {T A S : Nat → Int} (h : OwnPlan w base p T A S) : NilPlan p := ⟨own_nil0 h.t, own_nil0 h.a, own_nil0 h.s⟩

/-- Two answers of Paced are the same, each in its call's own memory. -/
theorem paced_pair {p : PlanX} {a1 : Option Addr} {k1 : Nat} {a2 : Option Addr} {k2 : Nat} {a3 : Option Addr} {k3 : Nat} {G A S : Nat → Int} {code : Int} {w1 w1' w2 w2' : World} {qA qB : PlanX} (hn : p.tn ≤ 40) (ha : p.an ≤ 40) (hs : p.sn ≤ 40)
    (hA : (code = 0 ∧ ∃ b1 c1 b2 c2 b3 c3, qA = (p.moved a1 k1 a2 k2 a3 k3).moved b1 c1 b2 c2 b3 c3 ∧ OwnPlan w1' w1.heap.size qA G A S) ∨ (code ≠ 0 ∧ qA = noPlan))
    (hB : (code = 0 ∧ ∃ b1 c1 b2 c2 b3 c3, qB = p.moved b1 c1 b2 c2 b3 c3 ∧ OwnPlan w2' w2.heap.size qB G A S) ∨ (code ≠ 0 ∧ qB = noPlan)) :
    ∃ G' A' S' b1 c1 b2 c2 b3 c3, qB = qA.moved b1 c1 b2 c2 b3 c3 ∧ qA.tn ≤ 40 ∧ qA.an ≤ 40 ∧ qA.sn ≤ 40 ∧ OwnPlan w1' w1.heap.size qA G' A' S' ∧ OwnPlan w2' w2.heap.size qB G' A' S' := by
  rcases hA with ⟨_, b1, c1, b2, c2, b3, c3, rfl, h1⟩ | ⟨hc, rfl⟩
  · rcases hB with ⟨_, u1, v1, u2, v2, u3, v3, rfl, h2⟩ | ⟨hc, _⟩
    · exact ⟨G, A, S, u1, v1, u2, v2, u3, v3, rfl, hn, ha, hs, h1, h2⟩
    · exact absurd ‹code = 0› hc
  · rcases hB with ⟨h0, _⟩ | ⟨_, rfl⟩
    · exact absurd h0 hc
    · exact ⟨fun _ => 0, fun _ => 0, fun _ => 0, none, 0, none, 0, none, 0, rfl, Nat.zero_le _, Nat.zero_le _, Nat.zero_le _, ⟨own_nil _ _ _ _ _, own_nil _ _ _ _ _, own_nil _ _ _ _ _⟩, ⟨own_nil _ _ _ _ _, own_nil _ _ _ _ _, own_nil _ _ _ _ _⟩⟩

end Go.Proofs.Ytacdbjandcdejaa
