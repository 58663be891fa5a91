/-
  PressChanges: the law's walk.
-/
import Derived.Test.YtmdmfiddabmaeaaQRWeigh
import Derived.Test.YtmdmfiddabmaeaaQRLead
import Derived.Test.YtmdmfiddabmaeaaQRStrike
namespace Go.Proofs.Ytmdmfiddabmaeaa
open Go.RowKit

theorem OwnNums.nil {w : World} {base : Nat} {t : TypeId} {k : Nat} {a : Option Addr} {len cap : Nat} {F : Nat → Int} (h : OwnNums w base t k a len cap F) (e : a = none) : len = 0 ∧ cap = 0 := by
  rcases h.own_block with ⟨_, h1, h2⟩ | ⟨g, h1, _⟩
  · exact ⟨h1, h2⟩
  · rw [e] at h1; cases h1
theorem infoInt : ∃ i, Try.prog.info? 3 = some i ∧ i.zero = some (.int .i64 0) ∧ i.size = 1 ∧ i.bytes = 8 := by
  have h : (Try.prog.info? 3).map (fun i => (i.zero, i.size, i.bytes)) = some (some (.int .i64 0), 1, 8) := by kernel_rfl
  obtain ⟨i, hi, h2⟩ := Option.map_eq_some_iff.1 h
  simp only [Prod.mk.injEq] at h2
  exact ⟨i, hi, h2.1, h2.2.1, h2.2.2⟩
/-- Two answers that are the same. -/
def Twain (n m : Nat) (w1 w1' w2 w2' : World) (a1 : Option Addr) (n1 c1 : Nat) (b1 : Option Addr) (m1 d1 : Nat) (q1 : Int) (a2 : Option Addr) (n2 c2 : Nat) (b2 : Option Addr) (m2 d2 : Nat) (q2 : Int) : Prop :=
  n1 = n2 ∧ m1 = m2 ∧ q1 = q2 ∧ n1 ≤ n ∧ m1 ≤ m + 1 ∧ ∃ A B, OwnNums w1' w1.heap.size 45 4 a1 n1 c1 A ∧ OwnNums w1' w1.heap.size 29 5 b1 m1 d1 B ∧ OwnNums w2' w2.heap.size 45 4 a2 n1 c2 A ∧ OwnNums w2' w2.heap.size 29 5 b2 m1 d2 B
theorem twain_none (n m : Nat) (w1 w1' w2 w2' : World) {a1 : Option Addr} {n1 c1 : Nat} {b1 : Option Addr} {m1 d1 : Nat} {q1 : Int} {a2 : Option Addr} {n2 c2 : Nat} {b2 : Option Addr} {m2 d2 : Nat} {q2 : Int} (h : a1 = none ∧ n1 = 0 ∧ c1 = 0 ∧ b1 = none ∧ m1 = 0 ∧ d1 = 0) (g : a2 = none ∧ n2 = 0 ∧ c2 = 0 ∧ b2 = none ∧ m2 = 0 ∧ d2 = 0) (e : q1 = q2) : Twain n m w1 w1' w2 w2' a1 n1 c1 b1 m1 d1 q1 a2 n2 c2 b2 m2 d2 q2 := by
  obtain ⟨rfl, rfl, rfl, rfl, rfl, rfl⟩ := h
  obtain ⟨rfl, rfl, rfl, rfl, rfl, rfl⟩ := g
  exact ⟨rfl, rfl, e, Nat.zero_le _, Nat.zero_le _, fun _ => 0, fun _ => 0, own_nil _ _ _ _ _, own_nil _ _ _ _ _, own_nil _ _ _ _ _, own_nil _ _ _ _ _⟩
section
variable {n : Nat} {F : Nat → Int} {m : Nat} {G : Nat → Int} {w1 w1' w2 w2' : World} {a1 : Option Addr} {n1 c1 : Nat} {b1 : Option Addr} {m1 d1 : Nat} {q1 : Int} {a2 : Option Addr} {n2 c2 : Nat} {b2 : Option Addr} {m2 d2 : Nat} {q2 : Int}
theorem WeighOut.same {x0 x1 x2 x3 x4 : Int} (p1 : WeighOut n F m G x0 x1 x2 x3 x4 w1 (.returned (.tuple #[pressV a1 n1 c1 b1 m1 d1, .int .i64 q1])) w1') (p2 : WeighOut n F m G x0 x1 x2 x3 x4 w2 (.returned (.tuple #[pressV a2 n2 c2 b2 m2 d2, .int .i64 q2])) w2') :
    Twain n m w1 w1' w2 w2' a1 n1 c1 b1 m1 d1 q1 a2 n2 c2 b2 m2 d2 q2 := by
  obtain ⟨_, _, _, _, _, _, _, e1, _, h1⟩ := p1
  obtain ⟨_, _, _, _, _, _, _, e2, _, h2⟩ := p2
  cases e1
  cases e2
  rcases h1 with ⟨_, y1, y2, y3, y4, y5, y6, h1⟩ | ⟨z1, z2, z3, u1, u2, k, u3, u4, u5, u6⟩
  · rcases h2 with ⟨_, t1, t2, t3, t4, t5, t6, h2⟩ | ⟨v1, v2, v3, r1, r2, k', r3, r4, r5, r6⟩
    · refine twain_none n m _ _ _ _ ⟨y1, y2, y3, y4, y5, y6⟩ ⟨t1, t2, t3, t4, t5, t6⟩ ?_
      rcases h1 with ⟨s1, rfl⟩ | ⟨s1, s2, rfl⟩ | ⟨s1, s2, rfl, _⟩ <;> rcases h2 with ⟨i1, rfl⟩ | ⟨i1, i2, rfl⟩ | ⟨i1, i2, rfl, _⟩ <;> first | rfl | (exact absurd i2 s2) | (exact absurd s2 i2) | (rw [s1] at i1; cases i1; done)
    · rcases h1 with ⟨s1, _⟩ | ⟨s1, s2, _⟩ | ⟨s1, s2, _, k, s3, s4⟩
      · rw [s1] at r1; cases r1
      · exact absurd r2 s2
      · obtain rfl := s3.same r3
        rw [s4] at r4; cases r4
  · rcases h2 with ⟨_, t1, t2, t3, t4, t5, t6, h2⟩ | ⟨v1, v2, v3, r1, r2, k', r3, r4, r5, r6⟩
    · rcases h2 with ⟨s1, _⟩ | ⟨s1, s2, _⟩ | ⟨s1, s2, _, k', s3, s4⟩
      · rw [s1] at u1; cases u1
      · exact absurd u2 s2
      · obtain rfl := s3.same u3
        rw [s4] at u4; cases u4
    · obtain rfl := r3.same u3
      subst z1; subst z2; subst z3; subst v1; subst v2; subst v3
      exact ⟨rfl, rfl, rfl, Nat.le_refl _, Nat.le_refl _, _, _, u5, u6, r5, r6⟩
theorem StrikeOut.same {len : Nat} {L : Nat → Int} (p1 : StrikeOut n F m G len L w1 (.returned (.tuple #[pressV a1 n1 c1 b1 m1 d1, .int .i64 q1])) w1') (p2 : StrikeOut n F m G len L w2 (.returned (.tuple #[pressV a2 n2 c2 b2 m2 d2, .int .i64 q2])) w2') :
    Twain n m w1 w1' w2 w2' a1 n1 c1 b1 m1 d1 q1 a2 n2 c2 b2 m2 d2 q2 := by
  obtain ⟨_, _, _, _, _, _, _, e1, k1, _, h1⟩ := p1
  obtain ⟨_, _, _, _, _, _, _, e2, k2, _, h2⟩ := p2
  cases e1
  cases e2
  have hq : q1 = q2 := by
    rcases k1 with ⟨s1, rfl⟩ | ⟨s1, s2, rfl⟩ | ⟨s1, s2, rfl⟩ <;> rcases k2 with ⟨i1, rfl⟩ | ⟨i1, i2, rfl⟩ | ⟨i1, i2, rfl⟩ <;> first | rfl | (exact absurd i2 s2) | (exact absurd s2 i2) | (rw [s1] at i1; cases i1; done)
  subst hq
  rcases h1 with ⟨z0, y1, y2, y3, y4, y5, y6⟩ | ⟨z1, z2, z3, u5, u6⟩
  · rcases h2 with ⟨_, t1, t2, t3, t4, t5, t6⟩ | ⟨v1, _⟩
    · exact twain_none n m _ _ _ _ ⟨y1, y2, y3, y4, y5, y6⟩ ⟨t1, t2, t3, t4, t5, t6⟩ rfl
    · exact absurd v1 z0
  · rcases h2 with ⟨v0, _⟩ | ⟨v1, v2, v3, r5, r6⟩
    · exact absurd z1 v0
    · subst z2; subst z3; subst v2; subst v3
      exact ⟨rfl, rfl, rfl, Nat.le_refl _, by have := Pure.leftN_le len L G m; omega, _, _, u5, u6, r5, r6⟩
theorem LeadOut.same {id tg : Int} (p1 : LeadOut n F m G id tg w1 (.returned (.tuple #[pressV a1 n1 c1 b1 m1 d1, .int .i64 q1])) w1') (p2 : LeadOut n F m G id tg w2 (.returned (.tuple #[pressV a2 n2 c2 b2 m2 d2, .int .i64 q2])) w2') :
    Twain n m w1 w1' w2 w2' a1 n1 c1 b1 m1 d1 q1 a2 n2 c2 b2 m2 d2 q2 := by
  obtain ⟨_, _, _, _, _, _, _, e1, _, h1⟩ := p1
  obtain ⟨_, _, _, _, _, _, _, e2, _, h2⟩ := p2
  cases e1
  cases e2
  rcases h1 with ⟨_, y1, y2, y3, y4, y5, y6, h1⟩ | ⟨z1, z2, z3, u1, i, u2, u3, u5, u6⟩
  · rcases h2 with ⟨_, t1, t2, t3, t4, t5, t6, h2⟩ | ⟨v1, v2, v3, r1, j, r2, r3, r5, r6⟩
    · refine twain_none n m _ _ _ _ ⟨y1, y2, y3, y4, y5, y6⟩ ⟨t1, t2, t3, t4, t5, t6⟩ ?_
      rcases h1 with ⟨s1, rfl⟩ | ⟨s1, s2, rfl⟩ | ⟨s1, rfl, i, s2, s3⟩ <;> rcases h2 with ⟨i1, rfl⟩ | ⟨i1, i2, rfl⟩ | ⟨i1, rfl, j, i2, i3⟩ <;> first | rfl | (rw [i2] at s2; omega) | (rw [s2] at i2; omega) | (rw [s1] at i1; cases i1; done)
    · rcases h1 with ⟨s1, _⟩ | ⟨s1, s2, _⟩ | ⟨s1, _, i, s2, s3⟩
      · rw [s1] at r1; cases r1
      · rw [r2] at s2; omega
      · obtain rfl : i = j := by rw [s2] at r2; omega
        rw [s3] at r3; cases r3
  · rcases h2 with ⟨_, t1, t2, t3, t4, t5, t6, h2⟩ | ⟨v1, v2, v3, r1, j, r2, r3, r5, r6⟩
    · rcases h2 with ⟨s1, _⟩ | ⟨s1, s2, _⟩ | ⟨s1, _, j, s2, s3⟩
      · rw [s1] at u1; cases u1
      · rw [u2] at s2; omega
      · obtain rfl : i = j := by rw [s2] at u2; omega
        rw [s3] at u3; cases u3
    · obtain rfl : i = j := by rw [u2] at r2; omega
      subst z1; subst z2; subst z3; subst v1; subst v2; subst v3
      exact ⟨rfl, rfl, rfl, Nat.le_refl _, by omega, _, _, u5, u6, r5, r6⟩
end

end Go.Proofs.Ytmdmfiddabmaeaa
