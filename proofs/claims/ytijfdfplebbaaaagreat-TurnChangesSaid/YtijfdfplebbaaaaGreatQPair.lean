/-
  Two rows that are made side by side in a region that draws its order: what stands at each time, whatever the order.
-/
import Derived.Test.YtijfdfplebbaaaaGreatQRef
namespace Go.Proofs.YtijfdfplebbaaaaGreat
open Go.RowKit

theorem OwnNums.diff {w : World} {base base' : Nat} {t t' : TypeId} {k k' : Nat} {a a' : Option Addr} {len cap len' cap' : Nat} {F F' : Nat → Int} (h : OwnNums w base t k a len cap F) (h' : OwnNums w base' t' k' a' len' cap' F') (ht : t ≠ t') : Apart a a' := fun x y hx hy e => by
  obtain ⟨_, ⟨h1, _⟩ | ⟨g, c, cur, he, _, hg, _⟩⟩ := h
  · subst hx; cases h1
  · subst hx
    simp only [Value.slice.injEq, Option.some.injEq] at he
    obtain ⟨rfl, _⟩ := he
    exact h'.ne hg (Ne.symm ht) y hy e.symm
/-- The slots of fx; the row so far in slot d1, if b1; the other's in slot d2, if b2. -/
structure PairSt (D : List Nat) (a0 : Act) (W : World) (fx : List (Nat × Value)) (T1 : TypeId) (k1 : Nat) (F1 : Nat → Int) (b1 : Bool) (d1 len1 : Nat) (T2 : TypeId) (k2 : Nat) (F2 : Nat → Int) (b2 : Bool) (d2 len2 : Nat) (a : Act) (w : World) : Prop where
  kept : Kept D a0 a
  fix : ∀ p ∈ fx, At a p.1 p.2
  below : Below W.heap.size W w
  r1 : b1 = true → ∃ s cp, At a d1 (.slice s len1 cp) ∧ OwnNums w W.heap.size T1 k1 s len1 cp F1
  r2 : b2 = true → ∃ s cp, At a d2 (.slice s len2 cp) ∧ OwnNums w W.heap.size T2 k2 s len2 cp F2
theorem fix_ne {fx : List (Nat × Value)} {d : Nat} (h : (fx.map (·.1)).contains d = false) {p : Nat × Value} (hp : p ∈ fx) : (p.1 == d) = false := by
  cases e : p.1 == d with
  | false => rfl
  | true =>
    have e2 : p.1 = d := by simpa using e
    have : (fx.map (·.1)).contains d = true := by
      rw [List.contains_iff_mem, ← e2]
      exact List.mem_map.2 ⟨p, hp, rfl⟩
    rw [this] at h
    cases h
section
variable {P : Program} {ops : Array Oper} {Q : Exit → Act → World → Prop} {D : List Nat} {a0 a : Act} {W w : World} {fx : List (Nat × Value)} {T1 : TypeId} {k1 : Nat} {F1 : Nat → Int} {b1 : Bool} {d1 len1 : Nat} {T2 : TypeId} {k2 : Nat} {F2 : Nat → Int} {b2 : Bool} {d2 len2 : Nat} {i : Nat} {o : Oper} {K : Act → World → Prop}
theorem PairSt.swap (h : PairSt D a0 W fx T1 k1 F1 b1 d1 len1 T2 k2 F2 b2 d2 len2 a w) : PairSt D a0 W fx T2 k2 F2 b2 d2 len2 T1 k1 F1 b1 d1 len1 a w := ⟨h.kept, h.fix, h.below, h.r2, h.r1⟩
theorem pair_start {d' : Nat} (ho : ops[i]? = some o) (hd : o.dst = some d') (hg : o.guard = none) (hm : D.contains d' = true) (hz : d' < a0.tmps.size) (hne : (fx.map (·.1)).contains d' = false) (hn2 : (d2 == d') = false)
    (hst : PairSt D a0 W fx T1 k1 F1 false d1 len1 T2 k2 F2 b2 d2 len2 a w) (hr : (execOp a.eval o).run P w = .ok (.value (.slice (some ⟨w.heap.size, 0, none⟩) 0 0)) (w.alloc (.cells #[] T1)))
    (h : ∀ a' w', PairSt D a0 W fx T1 k1 F1 true d' 0 T2 k2 F2 b2 d2 len2 a' w' → K a' w') : wpOp P ops Q i K a w := by
  refine op_value hst.kept ho hd hm hz (wanted_free hg) hr (fun a' hI hn hk => h _ _ ⟨hI, fun p hp => hk _ _ (hst.fix p hp) (fix_ne hne hp), below_thn hst.below (below_new _ _), fun _ => ⟨some ⟨w.heap.size, 0, none⟩, 0, hn, own_empty _ _ _ rfl hst.below.size _⟩, fun hb => ?_⟩)
  obtain ⟨s, cp, h1, h2⟩ := hst.r2 hb
  exact ⟨s, cp, hk _ _ h1 hn2, h2.below (below_new _ _)⟩
theorem pair_app {ST : TypeId} {bytes : Nat} {i0 : TypeInfo} {z : Value} {d' xs : Nat} {src : Option Addr} {m c : Nat} (hu : Tryz.prog.underlying ST = some (.slice T1)) (hi : Tryz.prog.info? T1 = some i0) (hz0 : i0.zero = some z) (hz1 : i0.size = k1) (hz2 : i0.bytes = bytes) (hzs : z.cells.size = k1) (hk0 : 0 < k1) (hb : bytes ≤ 64) (ht : T1 ≠ T2)
    (ho : ops[i]? = some o) (hd : o.dst = some d') (hg : o.guard = none) (hop : o.op = .call { callee := .builtin .append, args := #[.tmp d1, .tmp xs], argTypes := #[ST, ST] }) (hm : D.contains d' = true) (hz : d' < a0.tmps.size) (hne : (fx.map (·.1)).contains d' = false) (hn2 : (d2 == d') = false)
    (hst : PairSt D a0 W fx T1 k1 F1 true d1 0 T2 k2 F2 b2 d2 len2 a w) (hx : At a xs (.slice src m c)) (hH : NumsAt w src (m * k1) F1) (hnil : src = none → m = 0) (hml : m ≤ 100)
    (h : ∀ a' w', PairSt D a0 W fx T1 k1 F1 true d' m T2 k2 F2 b2 d2 len2 a' w' → K a' w') : wpOp Tryz.prog ops Q i K a w := by
  obtain ⟨s, cp, e1, e2⟩ := hst.r1 rfl
  obtain ⟨a', cap', w', hr, ho', hal, hbe, hfr⟩ := app_own w W.heap.size T1 ST o.type k1 bytes i0 z hu hi hz0 hz1 hz2 hzs hk0 hb e2 src m c F1 hH hnil (by omega) hml hst.below.size
  refine op_value hst.kept ho hd hm hz (wanted_free hg) (exec_append (.tmp d1) (.tmp xs) ST ST hop e1.eval hx.eval hr) (fun a2 hI hn hk => h _ _ ⟨hI, fun p hp => hk _ _ (hst.fix p hp) (fix_ne hne hp), hst.below.trans hbe, fun _ => ⟨a', cap', ?_, ?_⟩, fun hb2 => ?_⟩)
  · rw [Nat.zero_add] at hn; exact hn
  · have h3 := ho'
    rw [Nat.zero_add] at h3
    exact h3.congr (fun q hq => by simp [joinF])
  · obtain ⟨s2, cp2, h1, h2⟩ := hst.r2 hb2
    exact ⟨s2, cp2, hk _ _ h1 hn2, h2.kept (fun x hx => hal _ (h2.lt x hx).2 (fun y hy e => (e2.diff h2 ht) y x hy hx e.symm))⟩
end
end Go.Proofs.YtijfdfplebbaaaaGreat
