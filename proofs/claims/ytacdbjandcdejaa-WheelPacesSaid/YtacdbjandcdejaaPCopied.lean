/-
  The contracts of copied, valid and firstError.
-/
import Derived.Test.YtacdbjandcdejaaPCopy
import Derived.Test.YtacdbjandcdejaaHeldF
import Derived.Deep.CutRange
namespace Go.Proofs.Ytacdbjandcdejaa
open Go.RowKit

/-- A plan whose slices lie elsewhere. -/
abbrev PlanX.moved (p : PlanX) (a1 : Option Addr) (c1 : Nat) (a2 : Option Addr) (c2 : Nat) (a3 : Option Addr) (c3 : Nat) : PlanX := ⟨p.fr, a1, p.tn, c1, p.sd, p.ck, a2, p.an, c2, a3, p.sn, c3, p.bu⟩
/-- A plan whose slices lie in the call's own memory. -/
structure OwnPlan (w : World) (base : Nat) (p : PlanX) (T A S : Nat → Int) : Prop where
  t : OwnNums w base 3 1 p.ta p.tn p.tc T
  a : OwnNums w base 43 2 p.aa p.an p.ac A
  s : OwnNums w base 41 4 p.sa p.sn p.sc S
theorem OwnPlan.below {w w' : World} {base : Nat} {p : PlanX} {T A S : Nat → Int} (h : OwnPlan w base p T A S) (hb : Below w.heap.size w w') : OwnPlan w' base p T A S := ⟨h.t.below hb, h.a.below hb, h.s.below hb⟩
theorem OwnPlan.at {w : World} {base : Nat} {p : PlanX} {T A S : Nat → Int} (h : OwnPlan w base p T A S) : PlanAt w p T A S := ⟨by simpa using h.t.nums, h.a.nums, h.s.nums⟩
/-- A nil slice has no room. -/
structure NilPlan (p : PlanX) : Prop where
  t : p.ta = none → p.tn = 0 ∧ p.tc = 0
  a : p.aa = none → p.an = 0 ∧ p.ac = 0
  s : p.sa = none → p.sn = 0 ∧ p.sc = 0
theorem OwnNums.set {w : World} {base : Nat} {t : TypeId} {k : Nat} {a : Option Addr} {len cap : Nat} {F : Nat → Int} (h : OwnNums w base t k a len cap F) {p : Addr} (hp : p.block < base) (u : Value) : OwnNums (w.setCell p u) base t k a len cap F := by
  obtain ⟨h0, h1 | ⟨g, cap', cur, he, hbase, hg, h2⟩⟩ := h
  · exact ⟨h0, .inl h1⟩
  · exact ⟨h0, .inr ⟨g, cap', cur, he, hbase, (Below.heap_setCell _ _ _ _ (by omega)).trans hg, h2⟩⟩
theorem heap_set {W : World} {g : Nat} {arr : Array Value} {t : TypeId} (h : W.heap[g]? = some (.cells arr t)) (i : Nat) (u : Value) : (W.setCell ⟨g, i, none⟩ u).heap[g]? = some (.cells (arr.setIfInBounds i u) t) := by
  simp [World.setCell, Array.getElem?_modify, h]
/-- Two slices of two arrays. -/
def Apart (a b : Option Addr) : Prop := ∀ x y, a = some x → b = some y → x.block ≠ y.block
theorem OwnNums.lt {w : World} {base : Nat} {t : TypeId} {k : Nat} {a : Option Addr} {len cap : Nat} {F : Nat → Int} (h : OwnNums w base t k a len cap F) (x : Addr) (hx : a = some x) : base ≤ x.block ∧ x.block < w.heap.size := by
  obtain ⟨_, ⟨h1, _⟩ | ⟨g, _, _, he, hb, hg, _⟩⟩ := h
  · subst hx; cases h1
  · subst hx
    simp only [Value.slice.injEq, Option.some.injEq] at he
    obtain ⟨rfl, _⟩ := he
    exact ⟨hb, (Array.getElem?_eq_some_iff.1 hg).1⟩
theorem OwnNums.apart {w w' : World} {base : Nat} {t t' : TypeId} {k k' : Nat} {a a' : Option Addr} {len cap len' cap' : Nat} {F F' : Nat → Int} (h : OwnNums w base t k a len cap F) (h' : OwnNums w' w.heap.size t' k' a' len' cap' F') : Apart a a' := fun x y hx hy e => by
  have h1 := (h.lt x hx).2
  have h2 := (h'.lt y hy).1
  omega
theorem OwnNums.kept {w w' : World} {base : Nat} {t : TypeId} {k : Nat} {a : Option Addr} {len cap : Nat} {F : Nat → Int} (h : OwnNums w base t k a len cap F) (hk : ∀ x, a = some x → w'.heap[x.block]? = w.heap[x.block]?) : OwnNums w' base t k a len cap F := by
  obtain ⟨h0, h1 | ⟨g, cap', cur, he, hbase, hg, h2⟩⟩ := h
  · exact ⟨h0, .inl h1⟩
  · simp only [Value.slice.injEq] at he
    obtain ⟨rfl, _, rfl⟩ := he
    exact ⟨h0, .inr ⟨g, cap, cur, rfl, hbase, (hk _ rfl).trans hg, h2⟩⟩
def CopiedApart (p : PlanX) (T A S : Nat → Int) (w : World) (e : Ending) (w' : World) : Prop :=
  ∃ a1 c1 a2 c2 a3 c3, e = .returned (planV (p.moved a1 c1 a2 c2 a3 c3)) ∧ OwnPlan w' w.heap.size (p.moved a1 c1 a2 c2 a3 c3) T A S ∧ Below w.heap.size w w' ∧ Apart a1 a3 ∧ Apart a2 a3 ∧ Apart a1 a2
def CopiedOut (p : PlanX) (T A S : Nat → Int) (w : World) (e : Ending) (w' : World) : Prop :=
  ∃ a1 c1 a2 c2 a3 c3, e = .returned (planV (p.moved a1 c1 a2 c2 a3 c3)) ∧ OwnPlan w' w.heap.size (p.moved a1 c1 a2 c2 a3 c3) T A S ∧ Below w.heap.size w w'

set_option maxHeartbeats 4000000 in
set_option maxRecDepth 100000 in
theorem copied_any (p : PlanX) (T A S : Nat → Int) (hn : p.tn ≤ 40) (ha : p.an ≤ 40) (hs : p.sn ≤ 40) (hz : NilPlan p) (w : World) (h : PlanAt w p T A S) :
    Calls Try.prog 19 #[planV p] w (CopiedApart p T A S w) := by
  obtain ⟨fr, ta, tn, tc, sd, ck, aa, an, ac, sa, sn, sc, bu⟩ := p
  obtain ⟨z1, z2, z3⟩ := hz
  simp only at hn ha hs z1 z2 z3
  obtain ⟨W, hW⟩ : ∃ W, (w.alloc (planB ⟨fr, ta, tn, tc, sd, ck, aa, an, ac, sa, sn, sc, bu⟩)).alloc (planB ⟨0, none, 0, 0, 0, 0, none, 0, 0, none, 0, 0, 0⟩) = W := ⟨_, rfl⟩
  have HB : Hid (Below w.heap.size w W) := Lib.hid (by rw [← hW]; exact (below_new _ _).alloc (by simp) _)
  have HX : Hid (W.heap[w.heap.size]? = some (planB ⟨fr, ta, tn, tc, sd, ck, aa, an, ac, sa, sn, sc, bu⟩)) := Lib.hid (by rw [← hW]; exact heap_up (heap_top _ _ rfl) _)
  have HY : Hid (W.heap[w.heap.size + 1]? = some (planB ⟨0, none, 0, 0, 0, 0, none, 0, 0, none, 0, 0, 0⟩)) := Lib.hid (by rw [← hW]; exact heap_top _ _ (by simp))
  have HP : Hid (PlanAt W ⟨fr, ta, tn, tc, sd, ck, aa, an, ac, sa, sn, sc, bu⟩ T A S) := Lib.hid (h.below HB.out)
  have HZ := Lib.hid (And.intro z1 (And.intro z2 z3))
  have HSZ : Hid (W.heap.size = w.heap.size + 2) := Lib.hid (by rw [← hW]; simp)
  clear h z1 z2 z3
  go_enter Try.func19, Try.ntmps19
  go_upto_region 1 with fail
  try rw [hW]
  clear hW
  go_cut [] from 3 to 14 (fun wx => ∃ a1 c1 a2 c2 a3 c3, wx.heap[w.heap.size]? = some (planB ⟨fr, a1, tn, c1, sd, ck, a2, an, c2, a3, sn, c3, bu⟩) ∧ wx.heap[w.heap.size + 1]? = some (planB ⟨0, none, 0, 0, 0, 0, none, 0, 0, none, 0, 0, 0⟩) ∧ OwnPlan wx W.heap.size ⟨fr, a1, tn, c1, sd, ck, a2, an, c2, a3, sn, c3, bu⟩ T A S ∧ Below w.heap.size w wx ∧ Apart a1 a3 ∧ Apart a2 a3 ∧ Apart a1 a2)
  case first =>
    rename_i J K' hJ hK'
    generalize hA : (Act.mk _ _ : Act) = a0
    have m1 : At a0 1 (.pointer (some ⟨w.heap.size, 0, none⟩)) := by rw [← hA]; rfl
    have hsz : 14 < a0.tmps.size := by rw [← hA]; exact of_decide_eq_true (by kernel_rfl)
    have hfin : ∀ a' w', Kept (List.range' 3 12) a0 a' → (∃ a1 c1 a2 c2 a3 c3, w'.heap[w.heap.size]? = some (planB ⟨fr, a1, tn, c1, sd, ck, a2, an, c2, a3, sn, c3, bu⟩) ∧ w'.heap[w.heap.size + 1]? = some (planB ⟨0, none, 0, 0, 0, 0, none, 0, 0, none, 0, 0, 0⟩) ∧ OwnPlan w' W.heap.size ⟨fr, a1, tn, c1, sd, ck, a2, an, c2, a3, sn, c3, bu⟩ T A S ∧ Below w.heap.size w w' ∧ Apart a1 a3 ∧ Apart a2 a3 ∧ Apart a1 a2) → K' a' w' := by
      intro a' w' hI hL
      refine hK' _ _ (Met.intro (hJ _ _ ⟨a'.tmps.getD 3 undef, a'.tmps.getD 4 undef, a'.tmps.getD 5 undef, a'.tmps.getD 6 undef, a'.tmps.getD 7 undef, a'.tmps.getD 8 undef, a'.tmps.getD 9 undef, a'.tmps.getD 10 undef, a'.tmps.getD 11 undef, a'.tmps.getD 12 undef, a'.tmps.getD 13 undef, a'.tmps.getD 14 undef, hL, hI.eq.trans ?_⟩))
      rw [← hA]
      kernel_rfl
    have hI : Kept (List.range' 3 12) a0 a0 := Kept.refl _ _
    clear hA hJ hK' J
    refine with_pan (fun d _ _ _ _ h => by cases d <;> exact h) ?_
    intro hpan
    refine wp_region_heldF (fun z => z.heap[w.heap.size]? = some (planB ⟨fr, ta, tn, tc, sd, ck, aa, an, ac, sa, sn, sc, bu⟩)) [(0, 0), (1, 0), (3, 0), (4, 0), (6, 0), (7, 0), (2, 1), (9, 0), (5, 1), (8, 1), (10, 2), (11, 2), (12, 2), (13, 2), (14, 2)] (by kernel_rfl) (by kernel_rfl) (by kernel_rfl) (by kernel_rfl) (by kernel_rfl) hpan (HX.out) ?_
    obtain ⟨wz, hwz⟩ : ∃ x, W.drew = x := ⟨_, rfl⟩
    change heldF _ _ _ _ _ _ (W.drew)
    rw [hwz]
    have hq : Below W.heap.size W wz := by rw [← hwz]; exact (Below.refl _ _).drew
    clear hwz
    refine heldF_take (k := 0) (d := 3) (v := .pointer (some ⟨w.heap.size, 1, none⟩)) hI rfl rfl (by kernel_rfl) (Nat.lt_of_le_of_lt (by decide) hsz) (wanted_free rfl) (fun z hz => by have n1 := hI.at m1 (by kernel_rfl); have e1 := n1; have f1 := n1.eval; unfold At at e1; simp [go_sem, e1]) (fun a' hI' n3' hk => ?_)
    have n3 := n3'
    replace hI := hI'
    clear hk hI' n3'
    obtain ⟨act9, rfl⟩ : ∃ x, x = a' := ⟨_, rfl⟩
    refine heldF_take (k := 1) (d := 4) (v := .slice ta tn tc) hI rfl rfl (by kernel_rfl) (Nat.lt_of_le_of_lt (by decide) hsz) (wanted_free rfl) (fun z hz => by have e3 := n3; have f3 := n3.eval; unfold At at e3; have k0 := heap_cell hz (j := 1) rfl; simp [go_sem, e3, k0]) (fun a' hI' n4' hk => ?_)
    replace n3 := hk _ _ n3 rfl
    have n4 := n4'
    replace hI := hI'
    clear hk hI' n4'
    obtain ⟨act9, rfl⟩ : ∃ x, x = a' := ⟨_, rfl⟩
    clear n3
    refine heldF_take (k := 3) (d := 6) (v := .pointer (some ⟨w.heap.size, 4, none⟩)) hI rfl rfl (by kernel_rfl) (Nat.lt_of_le_of_lt (by decide) hsz) (wanted_free rfl) (fun z hz => by have n1 := hI.at m1 (by kernel_rfl); have e1 := n1; have f1 := n1.eval; unfold At at e1; simp [go_sem, e1]) (fun a' hI' n6' hk => ?_)
    replace n4 := hk _ _ n4 rfl
    have n6 := n6'
    replace hI := hI'
    clear hk hI' n6'
    obtain ⟨act9, rfl⟩ : ∃ x, x = a' := ⟨_, rfl⟩
    refine heldF_take (k := 4) (d := 7) (v := .slice aa an ac) hI rfl rfl (by kernel_rfl) (Nat.lt_of_le_of_lt (by decide) hsz) (wanted_free rfl) (fun z hz => by have e6 := n6; have f6 := n6.eval; unfold At at e6; have k0 := heap_cell hz (j := 4) rfl; simp [go_sem, e6, k0]) (fun a' hI' n7' hk => ?_)
    replace n4 := hk _ _ n4 rfl
    replace n6 := hk _ _ n6 rfl
    have n7 := n7'
    replace hI := hI'
    clear hk hI' n7'
    obtain ⟨act9, rfl⟩ : ∃ x, x = a' := ⟨_, rfl⟩
    clear n6
    refine heldF_take (k := 6) (d := 9) (v := .pointer (some ⟨w.heap.size, 5, none⟩)) hI rfl rfl (by kernel_rfl) (Nat.lt_of_le_of_lt (by decide) hsz) (wanted_free rfl) (fun z hz => by have n1 := hI.at m1 (by kernel_rfl); have e1 := n1; have f1 := n1.eval; unfold At at e1; simp [go_sem, e1]) (fun a' hI' n9' hk => ?_)
    replace n4 := hk _ _ n4 rfl
    replace n7 := hk _ _ n7 rfl
    have n9 := n9'
    replace hI := hI'
    clear hk hI' n9'
    obtain ⟨act9, rfl⟩ : ∃ x, x = a' := ⟨_, rfl⟩
    refine heldF_take (k := 7) (d := 10) (v := .slice sa sn sc) hI rfl rfl (by kernel_rfl) (Nat.lt_of_le_of_lt (by decide) hsz) (wanted_free rfl) (fun z hz => by have e9 := n9; have f9 := n9.eval; unfold At at e9; have k0 := heap_cell hz (j := 5) rfl; simp [go_sem, e9, k0]) (fun a' hI' n10' hk => ?_)
    replace n4 := hk _ _ n4 rfl
    replace n7 := hk _ _ n7 rfl
    replace n9 := hk _ _ n9 rfl
    have n10 := n10'
    replace hI := hI'
    clear hk hI' n10'
    obtain ⟨act9, rfl⟩ : ∃ x, x = a' := ⟨_, rfl⟩
    clear n9
    refine heldF_call (k := 2) (d := 5) (R := fun v w' => ∃ a c, v = .slice a tn c ∧ OwnNums w' wz.heap.size 3 1 a tn c T ∧ Below wz.heap.size wz w') hI rfl rfl (by kernel_rfl) (Nat.lt_of_le_of_lt (by decide) hsz) (wanted_free rfl) ((cloneInt_any ta tn tc T hn HZ.out.1 _ (by simpa using (HP.out.below hq).t)).mono fun e w' h => by obtain ⟨a, c, rfl, h2⟩ := h; exact ⟨_, rfl, a, c, rfl, h2.1, h2.2⟩) (by have e4 := n4; have f4 := n4.eval; unfold At at e4; simp [go_sem, e4]) (fun v w' hR => by obtain ⟨a, c, rfl, h2, h3⟩ := hR; exact heap_lft HX.out (below_thn hq h3)) ?_
    intro v w' a' hR hI' n5' hk
    obtain ⟨a1, c1, rfl, ho1, hb⟩ := hR
    obtain ⟨u1, rfl⟩ : ∃ x, x = w' := ⟨_, rfl⟩
    replace n4 := hk _ _ n4 rfl
    replace n7 := hk _ _ n7 rfl
    replace n10 := hk _ _ n10 rfl
    have n5 := n5'
    replace hI := hI'
    clear hk hI' n5'
    obtain ⟨act9, rfl⟩ : ∃ x, x = a' := ⟨_, rfl⟩
    replace ho1 := OwnNums.base ho1 (show W.heap.size ≤ _ from hq.size)
    replace hq := below_thn hq hb
    clear hb
    clear n4
    refine heldF_take (k := 9) (d := 12) (v := .pointer (some ⟨w.heap.size, 1, none⟩)) hI rfl rfl (by kernel_rfl) (Nat.lt_of_le_of_lt (by decide) hsz) (wanted_free rfl) (fun z hz => by have n1 := hI.at m1 (by kernel_rfl); have e1 := n1; have f1 := n1.eval; unfold At at e1; simp [go_sem, e1]) (fun a' hI' n12' hk => ?_)
    replace n7 := hk _ _ n7 rfl
    replace n10 := hk _ _ n10 rfl
    replace n5 := hk _ _ n5 rfl
    have n12 := n12'
    replace hI := hI'
    clear hk hI' n12'
    obtain ⟨act9, rfl⟩ : ∃ x, x = a' := ⟨_, rfl⟩
    refine heldF_call (k := 5) (d := 8) (R := fun v w' => ∃ a c, v = .slice a an c ∧ OwnNums w' u1.heap.size 43 2 a an c A ∧ Below u1.heap.size u1 w') hI rfl rfl (by kernel_rfl) (Nat.lt_of_le_of_lt (by decide) hsz) (wanted_free rfl) ((cloneArr_any aa an ac A ha HZ.out.2.1 _ (HP.out.below hq).a).mono fun e w' h => by obtain ⟨a, c, rfl, h2⟩ := h; exact ⟨_, rfl, a, c, rfl, h2.1, h2.2⟩) (by have e7 := n7; have f7 := n7.eval; unfold At at e7; simp [go_sem, e7]) (fun v w' hR => by obtain ⟨a, c, rfl, h2, h3⟩ := hR; exact heap_lft HX.out (below_thn hq h3)) ?_
    intro v w' a' hR hI' n8' hk
    obtain ⟨a2, c2, rfl, ho2, hb⟩ := hR
    obtain ⟨u2, rfl⟩ : ∃ x, x = w' := ⟨_, rfl⟩
    replace n7 := hk _ _ n7 rfl
    replace n10 := hk _ _ n10 rfl
    replace n5 := hk _ _ n5 rfl
    replace n12 := hk _ _ n12 rfl
    have n8 := n8'
    replace hI := hI'
    clear hk hI' n8'
    obtain ⟨act9, rfl⟩ : ∃ x, x = a' := ⟨_, rfl⟩
    have ap12 := OwnNums.apart ho1 ho2
    replace ho1 := ho1.below hb
    replace ho2 := OwnNums.base ho2 (show W.heap.size ≤ _ from hq.size)
    replace hq := below_thn hq hb
    clear hb
    clear n7
    refine heldF_call (k := 8) (d := 11) (R := fun v w' => ∃ a c, v = .slice a sn c ∧ OwnNums w' u2.heap.size 41 4 a sn c S ∧ Below u2.heap.size u2 w') hI rfl rfl (by kernel_rfl) (Nat.lt_of_le_of_lt (by decide) hsz) (wanted_free rfl) ((cloneSale_any sa sn sc S hs HZ.out.2.2 _ (HP.out.below hq).s).mono fun e w' h => by obtain ⟨a, c, rfl, h2⟩ := h; exact ⟨_, rfl, a, c, rfl, h2.1, h2.2⟩) (by have e10 := n10; have f10 := n10.eval; unfold At at e10; simp [go_sem, e10]) (fun v w' hR => by obtain ⟨a, c, rfl, h2, h3⟩ := hR; exact heap_lft HX.out (below_thn hq h3)) ?_
    intro v w' a' hR hI' n11' hk
    obtain ⟨a3, c3, rfl, ho3, hb⟩ := hR
    obtain ⟨u3, rfl⟩ : ∃ x, x = w' := ⟨_, rfl⟩
    replace n10 := hk _ _ n10 rfl
    replace n5 := hk _ _ n5 rfl
    replace n12 := hk _ _ n12 rfl
    replace n8 := hk _ _ n8 rfl
    have n11 := n11'
    replace hI := hI'
    clear hk hI' n11'
    obtain ⟨act9, rfl⟩ : ∃ x, x = a' := ⟨_, rfl⟩
    have ap13 := OwnNums.apart ho1 ho3
    have ap23 := OwnNums.apart ho2 ho3
    replace ho1 := ho1.below hb
    replace ho2 := ho2.below hb
    replace ho3 := OwnNums.base ho3 (show W.heap.size ≤ _ from hq.size)
    replace hq := below_thn hq hb
    clear hb
    clear n10
    have hx := heap_lft HX.out hq
    have hy := heap_lft HY.out hq
    have hB := below_thn HB.out hq
    clear hq
    refine heldF_store (k := 10) rfl rfl (wanted_free rfl) (by have e5 := n5; have f5 := n5.eval; unfold At at e5; have e12 := n12; have f12 := n12.eval; unfold At at e12; have k0 := heap_cell hx (j := 1) rfl; have k1 := heap_frozen hx 1; simp [go_sem, e5, e12, k0, k1]; rfl) ?_
    obtain ⟨u4, hu⟩ : ∃ x, u3.setCell ⟨w.heap.size, 1, none⟩ (.slice a1 tn c1) = x := ⟨_, rfl⟩
    replace hx : u4.heap[w.heap.size]? = some (planB ⟨fr, a1, tn, c1, sd, ck, aa, an, ac, sa, sn, sc, bu⟩) := by rw [← hu]; exact heap_set hx 1 _
    replace hy : u4.heap[w.heap.size + 1]? = some (planB ⟨0, none, 0, 0, 0, 0, none, 0, 0, none, 0, 0, 0⟩) := by rw [← hu]; exact (Below.heap_setCell _ _ _ _ (by simp)).trans hy
    replace hB : Below w.heap.size w u4 := by rw [← hu]; exact hB.setCell (Nat.le_refl _) _
    replace ho1 : OwnNums u4 W.heap.size 3 1 a1 tn c1 T := by rw [← hu]; exact ho1.set (by have := HSZ.out; simp; omega) _
    replace ho2 : OwnNums u4 W.heap.size 43 2 a2 an c2 A := by rw [← hu]; exact ho2.set (by have := HSZ.out; simp; omega) _
    replace ho3 : OwnNums u4 W.heap.size 41 4 a3 sn c3 S := by rw [← hu]; exact ho3.set (by have := HSZ.out; simp; omega) _
    try rw [hu]
    clear hu
    refine heldF_late (k := 11) (d := 13) (v := .pointer (some ⟨w.heap.size, 4, none⟩)) hI rfl rfl (by kernel_rfl) (Nat.lt_of_le_of_lt (by decide) hsz) (wanted_free rfl) (by have n1 := hI.at m1 (by kernel_rfl); have e1 := n1; have f1 := n1.eval; unfold At at e1; simp [go_sem, e1]; rfl) (fun a' hI' n13' hk => ?_)
    replace n5 := hk _ _ n5 rfl
    replace n12 := hk _ _ n12 rfl
    replace n8 := hk _ _ n8 rfl
    replace n11 := hk _ _ n11 rfl
    have n13 := n13'
    replace hI := hI'
    clear hk hI' n13'
    obtain ⟨act9, rfl⟩ : ∃ x, x = a' := ⟨_, rfl⟩
    refine heldF_store (k := 12) rfl rfl (wanted_free rfl) (by have e8 := n8; have f8 := n8.eval; unfold At at e8; have e13 := n13; have f13 := n13.eval; unfold At at e13; have k0 := heap_cell hx (j := 4) rfl; have k1 := heap_frozen hx 4; simp [go_sem, e8, e13, k0, k1]; rfl) ?_
    obtain ⟨u5, hu⟩ : ∃ x, u4.setCell ⟨w.heap.size, 4, none⟩ (.slice a2 an c2) = x := ⟨_, rfl⟩
    replace hx : u5.heap[w.heap.size]? = some (planB ⟨fr, a1, tn, c1, sd, ck, a2, an, c2, sa, sn, sc, bu⟩) := by rw [← hu]; exact heap_set hx 4 _
    replace hy : u5.heap[w.heap.size + 1]? = some (planB ⟨0, none, 0, 0, 0, 0, none, 0, 0, none, 0, 0, 0⟩) := by rw [← hu]; exact (Below.heap_setCell _ _ _ _ (by simp)).trans hy
    replace hB : Below w.heap.size w u5 := by rw [← hu]; exact hB.setCell (Nat.le_refl _) _
    replace ho1 : OwnNums u5 W.heap.size 3 1 a1 tn c1 T := by rw [← hu]; exact ho1.set (by have := HSZ.out; simp; omega) _
    replace ho2 : OwnNums u5 W.heap.size 43 2 a2 an c2 A := by rw [← hu]; exact ho2.set (by have := HSZ.out; simp; omega) _
    replace ho3 : OwnNums u5 W.heap.size 41 4 a3 sn c3 S := by rw [← hu]; exact ho3.set (by have := HSZ.out; simp; omega) _
    try rw [hu]
    clear hu
    refine heldF_late (k := 13) (d := 14) (v := .pointer (some ⟨w.heap.size, 5, none⟩)) hI rfl rfl (by kernel_rfl) (Nat.lt_of_le_of_lt (by decide) hsz) (wanted_free rfl) (by have n1 := hI.at m1 (by kernel_rfl); have e1 := n1; have f1 := n1.eval; unfold At at e1; simp [go_sem, e1]; rfl) (fun a' hI' n14' hk => ?_)
    replace n5 := hk _ _ n5 rfl
    replace n12 := hk _ _ n12 rfl
    replace n8 := hk _ _ n8 rfl
    replace n11 := hk _ _ n11 rfl
    replace n13 := hk _ _ n13 rfl
    have n14 := n14'
    replace hI := hI'
    clear hk hI' n14'
    obtain ⟨act9, rfl⟩ : ∃ x, x = a' := ⟨_, rfl⟩
    refine heldF_store (k := 14) rfl rfl (wanted_free rfl) (by have e11 := n11; have f11 := n11.eval; unfold At at e11; have e14 := n14; have f14 := n14.eval; unfold At at e14; have k0 := heap_cell hx (j := 5) rfl; have k1 := heap_frozen hx 5; simp [go_sem, e11, e14, k0, k1]; rfl) ?_
    obtain ⟨u6, hu⟩ : ∃ x, u5.setCell ⟨w.heap.size, 5, none⟩ (.slice a3 sn c3) = x := ⟨_, rfl⟩
    replace hx : u6.heap[w.heap.size]? = some (planB ⟨fr, a1, tn, c1, sd, ck, a2, an, c2, a3, sn, c3, bu⟩) := by rw [← hu]; exact heap_set hx 5 _
    replace hy : u6.heap[w.heap.size + 1]? = some (planB ⟨0, none, 0, 0, 0, 0, none, 0, 0, none, 0, 0, 0⟩) := by rw [← hu]; exact (Below.heap_setCell _ _ _ _ (by simp)).trans hy
    replace hB : Below w.heap.size w u6 := by rw [← hu]; exact hB.setCell (Nat.le_refl _) _
    replace ho1 : OwnNums u6 W.heap.size 3 1 a1 tn c1 T := by rw [← hu]; exact ho1.set (by have := HSZ.out; simp; omega) _
    replace ho2 : OwnNums u6 W.heap.size 43 2 a2 an c2 A := by rw [← hu]; exact ho2.set (by have := HSZ.out; simp; omega) _
    replace ho3 : OwnNums u6 W.heap.size 41 4 a3 sn c3 S := by rw [← hu]; exact ho3.set (by have := HSZ.out; simp; omega) _
    try rw [hu]
    clear hu
    refine heldF_done ?_
    exact hfin _ _ hI ⟨a1, c1, a2, c2, a3, c3, hx, hy, ⟨ho1, ho2, ho3⟩, hB, ap13, ap23, ap12⟩
  case rest =>
    obtain ⟨w2, rfl⟩ : ∃ x, x = wc := ⟨_, rfl⟩
    obtain ⟨a1, c1, a2, c2, a3, c3, hx, hy, ho, hb, hap⟩ := hcut
    have HAP := Lib.hid hap
    have HO := Lib.hid ho
    have HB2 := Lib.hid hb
    have HX2 := Lib.hid hx
    have HY2 := Lib.hid hy
    clear ho hb hx hy hap
    have x0 := heap_cell HX2.out (j := 0) rfl
    have y0 := heap_cell HY2.out (j := 0) rfl
    have f0 := heap_frozen HY2.out 0
    have x1 := heap_cell HX2.out (j := 1) rfl
    have y1 := heap_cell HY2.out (j := 1) rfl
    have f1 := heap_frozen HY2.out 1
    have x2 := heap_cell HX2.out (j := 2) rfl
    have y2 := heap_cell HY2.out (j := 2) rfl
    have f2 := heap_frozen HY2.out 2
    have x3 := heap_cell HX2.out (j := 3) rfl
    have y3 := heap_cell HY2.out (j := 3) rfl
    have f3 := heap_frozen HY2.out 3
    have x4 := heap_cell HX2.out (j := 4) rfl
    have y4 := heap_cell HY2.out (j := 4) rfl
    have f4 := heap_frozen HY2.out 4
    have x5 := heap_cell HX2.out (j := 5) rfl
    have y5 := heap_cell HY2.out (j := 5) rfl
    have f5 := heap_frozen HY2.out 5
    have x6 := heap_cell HX2.out (j := 6) rfl
    have y6 := heap_cell HY2.out (j := 6) rfl
    have f6 := heap_frozen HY2.out 6
    go_wp2_with fail
    refine bodyPost_ret (v := planV ⟨fr, a1, tn, c1, sd, ck, a2, an, c2, a3, sn, c3, bu⟩) (by simp [results, Try.results19, go_sem, y0, y1, y2, y3, y4, y5, y6]; try rfl) rfl ⟨a1, c1, a2, c2, a3, c3, rfl, ?_, ?_, HAP.out⟩
    · have HSZo := HSZ.out
      refine ⟨OwnNums.base (base := W.heap.size) ?_ (by omega), OwnNums.base (base := W.heap.size) ?_ (by omega), OwnNums.base (base := W.heap.size) ?_ (by omega)⟩
      · repeat (first | with_reducible exact HO.out.t | with_reducible refine OwnNums.set ?_ (by simp; omega) _)
      · repeat (first | with_reducible exact HO.out.a | with_reducible refine OwnNums.set ?_ (by simp; omega) _)
      · repeat (first | with_reducible exact HO.out.s | with_reducible refine OwnNums.set ?_ (by simp; omega) _)
    · repeat (first | with_reducible exact HB2.out | with_reducible refine Below.setCell ?_ (by simp) _)

end Go.Proofs.Ytacdbjandcdejaa
