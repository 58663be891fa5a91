/-
  append(append(append([]T{}, s...), x), r...) in a region that draws its order, beside a box that is made: what stands at each time, whatever the order.
-/
import Derived.Test.YtmdmfiddabmaeaaQTwin
namespace Go.Proofs.Ytmdmfiddabmaeaa
open Go.RowKit

/-- What stands: the slots of fx; the row so far in slot d, if ch; the one element's block in slot d9, if l9; the new box in slot d17, if l17. -/
structure LineSt (D : List Nat) (a0 : Act) (W : World) (T : TypeId) (k : Nat) (fx : List (Nat × Value)) (d9 : Nat) (o9 : Obj) (d17 : Nat) (o17 : Obj) (d len : Nat) (G : Nat → Int) (ch l9 l17 : Bool) (a : Act) (w : World) : Prop where
  kept : Kept D a0 a
  fix : ∀ p ∈ fx, At a p.1 p.2
  below : Below W.heap.size W w
  row : ∃ s cp, (ch = true → At a d (.slice s len cp) ∧ OwnNums w W.heap.size T k s len cp G) ∧
    (l9 = true → ∃ B, At a d9 (.slice (some ⟨B, 0, none⟩) 1 1) ∧ W.heap.size ≤ B ∧ (ch = true → ∀ x, s = some x → x.block ≠ B) ∧ w.heap[B]? = some o9) ∧
    (l17 = true → ∃ B, At a d17 (.pointer (some ⟨B, 0, none⟩)) ∧ W.heap.size ≤ B ∧ (ch = true → ∀ x, s = some x → x.block ≠ B) ∧ w.heap[B]? = some o17)
section
variable {P : Program} {ops : Array Oper} {Q : Exit → Act → World → Prop} {D : List Nat} {a0 a : Act} {W w : World} {T : TypeId} {k : Nat} {fx : List (Nat × Value)} {d9 : Nat} {o9 : Obj} {d17 : Nat} {o17 : Obj} {d len : Nat} {G : Nat → Int} {ch l9 l17 : Bool} {i : Nat} {o : Oper} {K : Act → World → Prop}
theorem line_box9 (ho : ops[i]? = some o) (hd : o.dst = some d9) (hg : o.guard = none) (hm : D.contains d9 = true) (hz : d9 < a0.tmps.size) (hne : (fx.map (·.1)).contains d9 = false) (hn1 : (d == d9) = false) (hn2 : (d17 == d9) = false)
    (hst : LineSt D a0 W T k fx d9 o9 d17 o17 d len G ch false l17 a w) (hr : (execOp a.eval o).run P w = .ok (.value (.slice (some ⟨w.heap.size, 0, none⟩) 1 1)) (w.alloc o9))
    (h : ∀ a' w', LineSt D a0 W T k fx d9 o9 d17 o17 d len G ch true l17 a' w' → K a' w') : wpOp P ops Q i K a w := by
  refine op_value hst.kept ho hd hm hz (wanted_free hg) hr (fun a' hI hn hk => h _ _ ⟨hI, fun p hp => hk _ _ (hst.fix p hp) (fix_ne hne hp), below_thn hst.below (below_new _ _), ?_⟩)
  obtain ⟨s, cp, h1, _, h3⟩ := hst.row
  refine ⟨s, cp, fun hc => ⟨hk _ _ (h1 hc).1 hn1, (h1 hc).2.below (below_new _ _)⟩, fun _ => ⟨w.heap.size, hn, hst.below.size, fun hc x hx => ?_, heap_top _ _ rfl⟩, fun hl => ?_⟩
  · have := ((h1 hc).2.lt x hx).2
    omega
  · obtain ⟨B, b1, b2, b3, b4⟩ := h3 hl
    exact ⟨B, hk _ _ b1 hn2, b2, b3, heap_up b4 _⟩
theorem line_box17 (ho : ops[i]? = some o) (hd : o.dst = some d17) (hg : o.guard = none) (hm : D.contains d17 = true) (hz : d17 < a0.tmps.size) (hne : (fx.map (·.1)).contains d17 = false) (hn1 : (d == d17) = false) (hn2 : (d9 == d17) = false)
    (hst : LineSt D a0 W T k fx d9 o9 d17 o17 d len G ch l9 false a w) (hr : (execOp a.eval o).run P w = .ok (.value (.pointer (some ⟨w.heap.size, 0, none⟩))) (w.alloc o17))
    (h : ∀ a' w', LineSt D a0 W T k fx d9 o9 d17 o17 d len G ch l9 true a' w' → K a' w') : wpOp P ops Q i K a w := by
  refine op_value hst.kept ho hd hm hz (wanted_free hg) hr (fun a' hI hn hk => h _ _ ⟨hI, fun p hp => hk _ _ (hst.fix p hp) (fix_ne hne hp), below_thn hst.below (below_new _ _), ?_⟩)
  obtain ⟨s, cp, h1, h3, _⟩ := hst.row
  refine ⟨s, cp, fun hc => ⟨hk _ _ (h1 hc).1 hn1, (h1 hc).2.below (below_new _ _)⟩, fun hl => ?_, fun _ => ⟨w.heap.size, hn, hst.below.size, fun hc x hx => ?_, heap_top _ _ rfl⟩⟩
  · obtain ⟨B, b1, b2, b3, b4⟩ := h3 hl
    exact ⟨B, hk _ _ b1 hn2, b2, b3, heap_up b4 _⟩
  · have := ((h1 hc).2.lt x hx).2
    omega
theorem line_start {d' : Nat} (ho : ops[i]? = some o) (hd : o.dst = some d') (hg : o.guard = none) (hm : D.contains d' = true) (hz : d' < a0.tmps.size) (hne : (fx.map (·.1)).contains d' = false) (hn1 : (d9 == d') = false) (hn2 : (d17 == d') = false)
    (hst : LineSt D a0 W T k fx d9 o9 d17 o17 d len G false l9 l17 a w) (hr : (execOp a.eval o).run P w = .ok (.value (.slice (some ⟨w.heap.size, 0, none⟩) 0 0)) (w.alloc (.cells #[] T))) (G' : Nat → Int)
    (h : ∀ a' w', LineSt D a0 W T k fx d9 o9 d17 o17 d' 0 G' true l9 l17 a' w' → K a' w') : wpOp P ops Q i K a w := by
  refine op_value hst.kept ho hd hm hz (wanted_free hg) hr (fun a' hI hn hk => h _ _ ⟨hI, fun p hp => hk _ _ (hst.fix p hp) (fix_ne hne hp), below_thn hst.below (below_new _ _), ?_⟩)
  obtain ⟨s, cp, _, h2, h3⟩ := hst.row
  refine ⟨some ⟨w.heap.size, 0, none⟩, 0, fun _ => ⟨hn, own_empty _ _ _ rfl hst.below.size _⟩, fun hl => ?_, fun hl => ?_⟩
  · obtain ⟨B, b1, b2, b3, b4⟩ := h2 hl
    exact ⟨B, hk _ _ b1 hn1, b2, fun _ x hx => by cases hx; have := (Array.getElem?_eq_some_iff.1 b4).1; dsimp only; omega, heap_up b4 _⟩
  · obtain ⟨B, b1, b2, b3, b4⟩ := h3 hl
    exact ⟨B, hk _ _ b1 hn2, b2, fun _ x hx => by cases hx; have := (Array.getElem?_eq_some_iff.1 b4).1; dsimp only; omega, heap_up b4 _⟩
/-- One append more. -/
theorem line_app {ST : TypeId} {bytes : Nat} {i0 : TypeInfo} {z : Value} {d' xs : Nat} {src : Option Addr} {m c : Nat} {H : Nat → Int} (hu : Try.prog.underlying ST = some (.slice T)) (hi : Try.prog.info? T = some i0) (hz0 : i0.zero = some z) (hz1 : i0.size = k) (hz2 : i0.bytes = bytes) (hzs : z.cells.size = k) (hk0 : 0 < k) (hb : bytes ≤ 64)
    (ho : ops[i]? = some o) (hd : o.dst = some d') (hg : o.guard = none) (hop : o.op = .call { callee := .builtin .append, args := #[.tmp d, .tmp xs], argTypes := #[ST, ST] }) (hm : D.contains d' = true) (hz : d' < a0.tmps.size) (hne : (fx.map (·.1)).contains d' = false) (hn1 : (d9 == d') = false) (hn2 : (d17 == d') = false)
    (hst : LineSt D a0 W T k fx d9 o9 d17 o17 d len G true l9 l17 a w) (hx : At a xs (.slice src m c)) (hH : NumsAt w src (m * k) H) (hnil : src = none → m = 0) (hl : len ≤ 100) (hml : m ≤ 100)
    (h : ∀ a' w', LineSt D a0 W T k fx d9 o9 d17 o17 d' (len + m) (joinF G (len * k) H) true l9 l17 a' w' → K a' w') : wpOp Try.prog ops Q i K a w := by
  obtain ⟨s, cp, h1, h2, h3⟩ := hst.row
  obtain ⟨e1, e2⟩ := h1 rfl
  obtain ⟨a', cap', w', hr, ho', hal, hbe, hfr⟩ := app_own w W.heap.size T ST o.type k bytes i0 z hu hi hz0 hz1 hz2 hzs hk0 hb e2 src m c H hH hnil hl hml hst.below.size
  refine op_value hst.kept ho hd hm hz (wanted_free hg) (exec_append (.tmp d) (.tmp xs) ST ST hop e1.eval hx.eval hr) (fun a2 hI hn hk => h _ _ ⟨hI, fun p hp => hk _ _ (hst.fix p hp) (fix_ne hne hp), hst.below.trans hbe, ?_⟩)
  refine ⟨a', cap', fun _ => ⟨hn, ho'⟩, fun hl9 => ?_, fun hl17 => ?_⟩
  · obtain ⟨B, b1, b2, b3, b4⟩ := h2 hl9
    have hlt := (Array.getElem?_eq_some_iff.1 b4).1
    refine ⟨B, hk _ _ b1 hn1, b2, fun _ x hx => ?_, (hal B hlt (fun y hy e => b3 rfl y hy e.symm)).trans b4⟩
    rcases hfr x hx with g | g
    · exact b3 rfl x g
    · omega
  · obtain ⟨B, b1, b2, b3, b4⟩ := h3 hl17
    have hlt := (Array.getElem?_eq_some_iff.1 b4).1
    refine ⟨B, hk _ _ b1 hn2, b2, fun _ x hx => ?_, (hal B hlt (fun y hy e => b3 rfl y hy e.symm)).trans b4⟩
    rcases hfr x hx with g | g
    · exact b3 rfl x g
    · omega
end

end Go.Proofs.Ytmdmfiddabmaeaa
