/-
  The contract of the specification's Twin at rolls.
-/
import Derived.Test.YtijfdfplebbaaaaGreatUSame
namespace Go.Proofs.YtijfdfplebbaaaaGreat
open Go.RowKit

/-- What stands of the twin so far. -/
structure TwSt (base : Nat) (w : World) (r : RollX) (d : RollD) (P : Option (Option Addr × Nat × Option Addr × Nat)) (M S N : Option (Option Addr × Nat × Nat)) : Prop where
  p : ∀ a c b e, P = some (a, c, b, e) → OwnNums w base 49 4 a r.pn c d.P ∧ OwnNums w base 53 5 b r.wn e d.W
  m : ∀ a n c, M = some (a, n, c) → OwnNums w base 3 1 a n c d.M
  s : ∀ a n c, S = some (a, n, c) → OwnNums w base 47 2 a n c d.S
  n : ∀ a n c, N = some (a, n, c) → OwnVals w base 34 7 a n c (noteF d.N)
section
variable {base : Nat} {w w' : World} {r : RollX} {d : RollD} {P : Option (Option Addr × Nat × Option Addr × Nat)} {M S N : Option (Option Addr × Nat × Nat)}
theorem TwSt.below (h : TwSt base w r d P M S N) (hb : Below w.heap.size w w') : TwSt base w' r d P M S N :=
  ⟨fun a c b e g => ⟨(h.p a c b e g).1.below hb, (h.p a c b e g).2.below hb⟩, fun a n c g => (h.m a n c g).below hb, fun a n c g => (h.s a n c g).below hb, fun a n c g => (h.n a n c g).below hb⟩
theorem twSt_start (base : Nat) (w : World) (r : RollX) (d : RollD) : TwSt base w r d none none none none := ⟨fun _ _ _ _ g => (by cases g), fun _ _ _ g => (by cases g), fun _ _ _ g => (by cases g), fun _ _ _ g => (by cases g)⟩
theorem TwSt.setP (h : TwSt base w r d P M S N) (a : Option Addr) (c : Nat) (b : Option Addr) (e : Nat) (h1 : OwnNums w base 49 4 a r.pn c d.P) (h2 : OwnNums w base 53 5 b r.wn e d.W) : TwSt base w r d (some (a, c, b, e)) M S N :=
  ⟨fun _ _ _ _ g => (by cases g; exact ⟨h1, h2⟩), h.m, h.s, h.n⟩
theorem TwSt.newM (h : TwSt base w r d P M S N) (hb : base ≤ w.heap.size) : TwSt base (w.alloc (.cells #[] 3)) r d P (some (some ⟨w.heap.size, 0, none⟩, 0, 0)) S N :=
  have g := h.below (below_new w (.cells #[] 3))
  ⟨g.p, fun _ _ _ e => (by cases e; exact own_empty _ _ _ rfl hb _), g.s, g.n⟩
theorem TwSt.newS (h : TwSt base w r d P M S N) (hb : base ≤ w.heap.size) : TwSt base (w.alloc (.cells #[] 47)) r d P M (some (some ⟨w.heap.size, 0, none⟩, 0, 0)) N :=
  have g := h.below (below_new w (.cells #[] 47))
  ⟨g.p, g.m, fun _ _ _ e => (by cases e; exact own_empty _ _ _ rfl hb _), g.n⟩
theorem TwSt.newN (h : TwSt base w r d P M S N) (hb : base ≤ w.heap.size) : TwSt base (w.alloc (.cells #[] 34)) r d P M S (some (some ⟨w.heap.size, 0, none⟩, 0, 0)) :=
  have g := h.below (below_new w (.cells #[] 34))
  ⟨g.p, g.m, g.s, fun _ _ _ e => by cases e; exact ownv_empty _ _ _ rfl hb _⟩
/-- What is of another type than what was written stays. -/
theorem nums_moved {t t' : TypeId} {k : Nat} {a x : Option Addr} {len cap : Nat} {F : Nat → Int} (h : OwnNums w base t k a len cap F) (hx : ∀ y, x = some y → ∃ cu, w.heap[y.block]? = some (.cells cu t')) (ht : t ≠ t') (hal : Alone x w w') : OwnNums w' base t k a len cap F :=
  h.kept fun y hy => hal _ (h.lt y hy).2 fun z hz => by
    obtain ⟨cu, hc⟩ := hx z hz
    exact h.ne hc ht y hy
theorem vals_moved {t t' : TypeId} {k : Nat} {a x : Option Addr} {len cap : Nat} {F : Nat → Value} (h : OwnVals w base t k a len cap F) (hx : ∀ y, x = some y → ∃ cu, w.heap[y.block]? = some (.cells cu t')) (ht : t ≠ t') (hal : Alone x w w') : OwnVals w' base t k a len cap F :=
  h.kept fun y hy => hal _ (h.lt y hy).2 fun z hz => by
    obtain ⟨cu, hc⟩ := hx z hz
    exact h.ne hc ht y hy
theorem TwSt.appM {a : Option Addr} {c : Nat} (h : TwSt base w r d P (some (a, 0, c)) S N) (hs : NumsAt w r.ma (r.mn * 1) (d.M)) (hnil : r.ma = none → r.mn = 0) (hl : r.mn ≤ 100) (hb : base ≤ w.heap.size) (ty : TypeId) :
    ∃ a' c' w', (Builtin.append_ #[26, 26] ty #[.slice a 0 c, .slice r.ma r.mn r.mc]).run Tryz.prog w = .ok (.slice a' r.mn c') w' ∧ TwSt base w' r d P (some (a', r.mn, c')) S N ∧ Below base w w' := by
  obtain ⟨i0, hi, hz0, hz1, hz2⟩ := infoNum
  obtain ⟨a', c', w', hr, ho, hal, hbe, _⟩ := app_own w base 3 26 ty 1 8 i0 _ Tryz.underlying26 hi hz0 hz1 hz2 rfl (by decide) (by decide) (h.m a 0 c rfl) r.ma r.mn r.mc (d.M) hs hnil (by omega) hl hb
  have hcx := (h.m a 0 c rfl).cells
  rw [Nat.zero_add] at hr ho
  have ho2 := ho.congr (G := d.M) (fun q hq => by simp [joinF])
  exact ⟨a', c', w', hr, ⟨fun a c b e g => ⟨nums_moved (h.p a c b e g).1 hcx (by decide) hal, nums_moved (h.p a c b e g).2 hcx (by decide) hal⟩, fun _ _ _ g => (by cases g; exact ho2), fun a n c g => nums_moved (h.s a n c g) hcx (by decide) hal, fun a n c g => vals_moved (h.n a n c g) hcx (by decide) hal⟩, hbe⟩
theorem TwSt.appS {a : Option Addr} {c : Nat} (h : TwSt base w r d P M (some (a, 0, c)) N) (hs : NumsAt w r.sa (r.sn * 2) (d.S)) (hnil : r.sa = none → r.sn = 0) (hl : r.sn ≤ 100) (hb : base ≤ w.heap.size) (ty : TypeId) :
    ∃ a' c' w', (Builtin.append_ #[27, 27] ty #[.slice a 0 c, .slice r.sa r.sn r.sc]).run Tryz.prog w = .ok (.slice a' r.sn c') w' ∧ TwSt base w' r d P M (some (a', r.sn, c')) N ∧ Below base w w' := by
  obtain ⟨i0, hi, hz0, hz1, hz2⟩ := infoShift
  obtain ⟨a', c', w', hr, ho, hal, hbe, _⟩ := app_own w base 47 27 ty 2 16 i0 _ Tryz.underlying27 hi hz0 hz1 hz2 rfl (by decide) (by decide) (h.s a 0 c rfl) r.sa r.sn r.sc (d.S) hs hnil (by omega) hl hb
  have hcx := (h.s a 0 c rfl).cells
  rw [Nat.zero_add] at hr ho
  have ho2 := ho.congr (G := d.S) (fun q hq => by simp [joinF])
  exact ⟨a', c', w', hr, ⟨fun a c b e g => ⟨nums_moved (h.p a c b e g).1 hcx (by decide) hal, nums_moved (h.p a c b e g).2 hcx (by decide) hal⟩, fun a n c g => nums_moved (h.m a n c g) hcx (by decide) hal, fun _ _ _ g => (by cases g; exact ho2), fun a n c g => vals_moved (h.n a n c g) hcx (by decide) hal⟩, hbe⟩
theorem TwSt.appN {a : Option Addr} {c : Nat} (h : TwSt base w r d P M S (some (a, 0, c))) (hs : ValsAt w r.na (r.nn * 7) (noteF d.N)) (hnil : r.na = none → r.nn = 0) (hl : r.nn ≤ 100) (hb : base ≤ w.heap.size) (ty : TypeId) :
    ∃ a' c' w', (Builtin.append_ #[28, 28] ty #[.slice a 0 c, .slice r.na r.nn r.nc]).run Tryz.prog w = .ok (.slice a' r.nn c') w' ∧ TwSt base w' r d P M S (some (a', r.nn, c')) ∧ Below base w w' := by
  obtain ⟨i0, hi, hz0, hz1, hz2⟩ := infoTNote
  obtain ⟨a', c', w', hr, ho, hal, hbe, _⟩ := app_vals w base 34 28 ty 7 56 i0 _ Tryz.underlying28 hi hz0 hz1 hz2 rfl (by decide) (by decide) (h.n a 0 c rfl) r.na r.nn r.nc (noteF d.N) (noteF_one _) hs hnil (by omega) hl hb
  have hcx := (h.n a 0 c rfl).cells
  rw [Nat.zero_add] at hr ho
  have ho2 := ho.congr (G := noteF d.N) (fun q hq => by simp [joinV])
  exact ⟨a', c', w', hr, ⟨fun a c b e g => ⟨nums_moved (h.p a c b e g).1 hcx (by decide) hal, nums_moved (h.p a c b e g).2 hcx (by decide) hal⟩, fun a n c g => nums_moved (h.m a n c g) hcx (by decide) hal, fun a n c g => nums_moved (h.s a n c g) hcx (by decide) hal, fun _ _ _ g => (by cases g; exact ho2)⟩, hbe⟩
end
theorem restF_name {P : Program} {ops : Array Oper} {Q : Exit → Act → World → Prop} {S : World → Prop} {f : Nat → Bool} {n : Nat} {done : List Nat} {a : Act} {w : World} (h : ∀ R : Nat → List Nat → Act → World → Prop, R = RestF P ops Q S f → R n done a w) : RestF P ops Q S f n done a w := h _ rfl
/-- A slice that is nil is empty. -/
structure RollNone (r : RollX) : Prop where
  p : r.pa = none → r.pn = 0
  w : r.wa = none → r.wn = 0
  m : r.ma = none → r.mn = 0
  s : r.sa = none → r.sn = 0
  n : r.na = none → r.nn = 0
/-- What Twin answers. -/
def TwinOut (r : RollX) (d : RollD) (w : World) (e : Ending) (w' : World) : Prop := ∃ r', e = .returned (rollV r') ∧ OwnRoll w' w.heap.size r' d ∧ r'.pn = r.pn ∧ r'.wn = r.wn ∧ r'.mn = r.mn ∧ r'.sn = r.sn ∧ r'.nn = r.nn ∧ Below w.heap.size w w'
set_option maxHeartbeats 32000000 in
set_option maxRecDepth 100000 in
/-- **Twin**, the specification's. -/
theorem rTwin_any (r : RollX) (d : RollD) (hN : RollN r) (hnil : RollNone r) (w : World) (hR : RollAt w r d) :
    Calls Tryz.prog 5 #[rollV r] w (TwinOut r d w) := by
  obtain ⟨W, hW⟩ : ∃ W, (w.alloc (rollB r)).alloc ZB = W := ⟨_, rfl⟩
  have HB : Hid (Below w.heap.size w W) := Lib.hid (by rw [← hW]; exact (below_new _ _).alloc (by simp) _)
  have HX : Hid (W.heap[w.heap.size]? = some (rollB r)) := Lib.hid (by rw [← hW]; exact heap_up (heap_top _ _ rfl) _)
  have HZ : Hid (W.heap[w.heap.size + 1]? = some ZB) := Lib.hid (by rw [← hW]; exact heap_top _ _ (by simp))
  have HSZ : Hid (W.heap.size = w.heap.size + 2) := Lib.hid (by rw [← hW]; simp)
  have HR := Lib.hid (hR.below HB.out)
  have HN := Lib.hid hnil
  clear hR hnil
  go_enter Tryz.func5, Tryz.ntmps5
  go_upto_region 1 with fail
  try rw [hW]
  clear hW
  go_cut [] from 3 to 18 (fun wx => ∃ r', wx.heap[w.heap.size + 1]? = some (rollB r') ∧ OwnRoll wx W.heap.size r' d ∧ r'.pn = r.pn ∧ r'.wn = r.wn ∧ r'.mn = r.mn ∧ r'.sn = r.sn ∧ r'.nn = r.nn ∧ Below w.heap.size w wx)
  case first =>
    rename_i J K' hJ hK'
    generalize hA : (Act.mk _ _ : Act) = a0
    have m1 : At a0 1 (.pointer (some ⟨w.heap.size, 0, none⟩)) := by rw [← hA]; rfl
    have m2 : At a0 2 (.pointer (some ⟨w.heap.size + 1, 0, none⟩)) := by rw [← hA]; rfl
    have hsz : 18 < a0.tmps.size := by rw [← hA]; exact of_decide_eq_true (by kernel_rfl)
    have hfin : ∀ a' w', Kept (List.range' 3 16) a0 a' → (∃ r', w'.heap[w.heap.size + 1]? = some (rollB r') ∧ OwnRoll w' W.heap.size r' d ∧ r'.pn = r.pn ∧ r'.wn = r.wn ∧ r'.mn = r.mn ∧ r'.sn = r.sn ∧ r'.nn = r.nn ∧ Below w.heap.size w w') → K' a' w' := by
      intro a' w' hI hL
      refine hK' _ _ (Met.intro (hJ _ _ ⟨a'.tmps.getD 3 undef, a'.tmps.getD 4 undef, a'.tmps.getD 5 undef, a'.tmps.getD 6 undef, a'.tmps.getD 7 undef, a'.tmps.getD 8 undef, a'.tmps.getD 9 undef, a'.tmps.getD 10 undef, a'.tmps.getD 11 undef, a'.tmps.getD 12 undef, a'.tmps.getD 13 undef, a'.tmps.getD 14 undef, a'.tmps.getD 15 undef, a'.tmps.getD 16 undef, a'.tmps.getD 17 undef, a'.tmps.getD 18 undef, hL, hI.eq.trans ?_⟩))
      rw [← hA]
      kernel_rfl
    have hI : Kept (List.range' 3 16) a0 a0 := Kept.refl _ _
    clear hA hJ hK' J
    refine with_pan (fun d _ _ _ _ h => by cases d <;> exact h) ?_
    intro hpan
    refine wp_region_restF (fun j => j == 16) (fun z => z.heap[w.heap.size]? = some (rollB r) ∧ z.heap[w.heap.size + 1]? = some ZB) (by kernel_rfl) ?_
    obtain ⟨wz, hwz⟩ : ∃ x, W.drew = x := ⟨_, rfl⟩
    change RestF _ _ _ _ _ _ _ _ (W.drew)
    rw [hwz]
    have hq : Below W.heap.size W wz := by rw [← hwz]; exact (Below.refl _ _).drew
    clear hwz
    have hS : wz.heap[w.heap.size]? = some (rollB r) ∧ wz.heap[w.heap.size + 1]? = some ZB := ⟨heap_lft HX.out hq, heap_lft HZ.out hq⟩
    refine restF_take (k := 0) (d := 3) (v := .pointer (some ⟨w.heap.size, 0, none⟩)) hI rfl rfl (by kernel_rfl) (Nat.lt_of_le_of_lt (by decide) hsz) (by kernel_rfl) hpan (by kernel_rfl) hS (wanted_free rfl) (fun z hz => by have n1 := hI.at m1 (by kernel_rfl); have e1 := n1; have f1 := n1.eval; unfold At at e1; simp [go_sem, e1]) (fun a' hI' n3' hk => ?_)
    have n3 := n3'
    replace hI := hI'
    clear hk hI' n3'
    obtain ⟨act9, rfl⟩ : ∃ x, x = a' := ⟨_, rfl⟩
    refine restF_take (k := 1) (d := 4) (v := .agg #[.slice r.pa r.pn r.pc, .slice r.wa r.wn r.wc]) hI rfl rfl (by kernel_rfl) (Nat.lt_of_le_of_lt (by decide) hsz) (by kernel_rfl) hpan (by kernel_rfl) hS (wanted_free rfl) (fun z hz => by have e3 := n3; have f3 := n3.eval; unfold At at e3; have k0 := heap_cell hz.1 (j := 0) rfl; have k1 := heap_cell hz.1 (j := 1) rfl; simp [go_sem, e3, k0, k1]) (fun a' hI' n4' hk => ?_)
    replace n3 := hk _ _ n3 rfl
    have n4 := n4'
    replace hI := hI'
    clear hk hI' n4'
    obtain ⟨act9, rfl⟩ : ∃ x, x = a' := ⟨_, rfl⟩
    clear n3
    refine restF_take (k := 4) (d := 7) (v := .pointer (some ⟨w.heap.size, 2, none⟩)) hI rfl rfl (by kernel_rfl) (Nat.lt_of_le_of_lt (by decide) hsz) (by kernel_rfl) hpan (by kernel_rfl) hS (wanted_free rfl) (fun z hz => by have n1 := hI.at m1 (by kernel_rfl); have e1 := n1; have f1 := n1.eval; unfold At at e1; simp [go_sem, e1]) (fun a' hI' n7' hk => ?_)
    replace n4 := hk _ _ n4 rfl
    have n7 := n7'
    replace hI := hI'
    clear hk hI' n7'
    obtain ⟨act9, rfl⟩ : ∃ x, x = a' := ⟨_, rfl⟩
    refine restF_take (k := 5) (d := 8) (v := .slice r.ma r.mn r.mc) hI rfl rfl (by kernel_rfl) (Nat.lt_of_le_of_lt (by decide) hsz) (by kernel_rfl) hpan (by kernel_rfl) hS (wanted_free rfl) (fun z hz => by have e7 := n7; have f7 := n7.eval; unfold At at e7; have k2 := heap_cell hz.1 (j := 2) rfl; simp [go_sem, e7, k2]) (fun a' hI' n8' hk => ?_)
    replace n4 := hk _ _ n4 rfl
    replace n7 := hk _ _ n7 rfl
    have n8 := n8'
    replace hI := hI'
    clear hk hI' n8'
    obtain ⟨act9, rfl⟩ : ∃ x, x = a' := ⟨_, rfl⟩
    clear n7
    refine restF_take (k := 8) (d := 11) (v := .pointer (some ⟨w.heap.size, 3, none⟩)) hI rfl rfl (by kernel_rfl) (Nat.lt_of_le_of_lt (by decide) hsz) (by kernel_rfl) hpan (by kernel_rfl) hS (wanted_free rfl) (fun z hz => by have n1 := hI.at m1 (by kernel_rfl); have e1 := n1; have f1 := n1.eval; unfold At at e1; simp [go_sem, e1]) (fun a' hI' n11' hk => ?_)
    replace n4 := hk _ _ n4 rfl
    replace n8 := hk _ _ n8 rfl
    have n11 := n11'
    replace hI := hI'
    clear hk hI' n11'
    obtain ⟨act9, rfl⟩ : ∃ x, x = a' := ⟨_, rfl⟩
    refine restF_take (k := 9) (d := 12) (v := .slice r.sa r.sn r.sc) hI rfl rfl (by kernel_rfl) (Nat.lt_of_le_of_lt (by decide) hsz) (by kernel_rfl) hpan (by kernel_rfl) hS (wanted_free rfl) (fun z hz => by have e11 := n11; have f11 := n11.eval; unfold At at e11; have k3 := heap_cell hz.1 (j := 3) rfl; simp [go_sem, e11, k3]) (fun a' hI' n12' hk => ?_)
    replace n4 := hk _ _ n4 rfl
    replace n8 := hk _ _ n8 rfl
    replace n11 := hk _ _ n11 rfl
    have n12 := n12'
    replace hI := hI'
    clear hk hI' n12'
    obtain ⟨act9, rfl⟩ : ∃ x, x = a' := ⟨_, rfl⟩
    clear n11
    refine restF_take (k := 12) (d := 15) (v := .pointer (some ⟨w.heap.size, 4, none⟩)) hI rfl rfl (by kernel_rfl) (Nat.lt_of_le_of_lt (by decide) hsz) (by kernel_rfl) hpan (by kernel_rfl) hS (wanted_free rfl) (fun z hz => by have n1 := hI.at m1 (by kernel_rfl); have e1 := n1; have f1 := n1.eval; unfold At at e1; simp [go_sem, e1]) (fun a' hI' n15' hk => ?_)
    replace n4 := hk _ _ n4 rfl
    replace n8 := hk _ _ n8 rfl
    replace n12 := hk _ _ n12 rfl
    have n15 := n15'
    replace hI := hI'
    clear hk hI' n15'
    obtain ⟨act9, rfl⟩ : ∃ x, x = a' := ⟨_, rfl⟩
    refine restF_take (k := 13) (d := 16) (v := .slice r.na r.nn r.nc) hI rfl rfl (by kernel_rfl) (Nat.lt_of_le_of_lt (by decide) hsz) (by kernel_rfl) hpan (by kernel_rfl) hS (wanted_free rfl) (fun z hz => by have e15 := n15; have f15 := n15.eval; unfold At at e15; have k4 := heap_cell hz.1 (j := 4) rfl; simp [go_sem, e15, k4]) (fun a' hI' n16' hk => ?_)
    replace n4 := hk _ _ n4 rfl
    replace n8 := hk _ _ n8 rfl
    replace n12 := hk _ _ n12 rfl
    replace n15 := hk _ _ n15 rfl
    have n16 := n16'
    replace hI := hI'
    clear hk hI' n16'
    obtain ⟨act9, rfl⟩ : ∃ x, x = a' := ⟨_, rfl⟩
    clear n15
    refine restF_name (fun R hR => ?_)
    have st4msn : ∀ (p1 : Option Addr) (p2 : Nat) (p3 : Option Addr) (p4 : Nat) (ym : Option Addr) (cm : Nat) (ys : Option Addr) (cs : Nat) (yn : Option Addr) (cn : Nat) (ac : Act) (wo : World), Kept (List.range' 3 16) a0 ac → At ac 5 (.agg #[.slice p1 r.pn p2, .slice p3 r.wn p4]) → At ac 9 (.slice ym r.mn cm) → At ac 13 (.slice ys r.sn cs) → At ac 17 (.slice yn r.nn cn) → TwSt W.heap.size wo r d (some (p1, p2, p3, p4)) (some (ym, r.mn, cm)) (some (ys, r.sn, cs)) (some (yn, r.nn, cn)) → (wo.heap[w.heap.size]? = some (rollB r) ∧ wo.heap[w.heap.size + 1]? = some ZB) → Below W.heap.size W wo → R 2 [0, 1, 4, 5, 8, 9, 12, 13, 3, 7, 11, 2, 6, 10, 14] ac wo := by
      intro p1 p2 p3 p4 ym cm ys cs yn cn ac wo hI n5 n9 n13 n17 hT hS hq
      rw [hR]
      refine restF_only (k := 15) (by kernel_rfl) (op_value (k := 15) (d := 18) (v := .agg #[.slice p1 r.pn p2, .slice p3 r.wn p4, .slice ym r.mn cm, .slice ys r.sn cs, .slice yn r.nn cn]) hI rfl rfl (by kernel_rfl) (Nat.lt_of_le_of_lt (by decide) hsz) (wanted_free rfl) (by have e5 := n5; have f5 := n5.eval; unfold At at e5; have e9 := n9; have f9 := n9.eval; unfold At at e9; have e13 := n13; have f13 := n13.eval; unfold At at e13; have e17 := n17; have f17 := n17.eval; unfold At at e17; simp [go_sem, e5, e9, e13, e17]; try rfl) (fun a' hI' n18' hk => ⟨fun _ => hS, ?_⟩))
      replace n5 := hk _ _ n5 rfl
      replace n9 := hk _ _ n9 rfl
      replace n13 := hk _ _ n13 rfl
      replace n17 := hk _ _ n17 rfl
      have n18 := n18'
      replace hI := hI'
      clear hk hI' n18'
      obtain ⟨act9, rfl⟩ : ∃ x, x = a' := ⟨_, rfl⟩
      have hZ := hS.2
      have hS5 := heap_set (heap_set (heap_set (heap_set (heap_set hZ 0 (.slice p1 r.pn p2)) 1 (.slice p3 r.wn p4)) 2 (.slice ym r.mn cm)) 3 (.slice ys r.sn cs)) 4 (.slice yn r.nn cn)
      have hsz2 := HSZ.out
      have hO : OwnRoll wo W.heap.size ⟨p1, r.pn, p2, p3, r.wn, p4, ym, r.mn, cm, ys, r.sn, cs, yn, r.nn, cn⟩ d := ⟨(hT.p _ _ _ _ rfl).1, (hT.p _ _ _ _ rfl).2, hT.m _ _ _ rfl, hT.s _ _ _ rfl, hT.n _ _ _ rfl⟩
      refine restF_only (k := 16) (by kernel_rfl) (op_store (k := 16) rfl rfl (wanted_free rfl) (by have n2 := hI.at m2 (by kernel_rfl); have e2 := n2; have f2 := n2.eval; unfold At at e2; have e18 := n18; have f18 := n18.eval; unfold At at e18; have k0 := heap_cell hS.2 (j := 0) rfl; have f0 := heap_frozen hS.2 0; have k1 := heap_cell hS.2 (j := 1) rfl; have f1 := heap_frozen hS.2 1; have k2 := heap_cell hS.2 (j := 2) rfl; have f2 := heap_frozen hS.2 2; have k3 := heap_cell hS.2 (j := 3) rfl; have f3 := heap_frozen hS.2 3; have k4 := heap_cell hS.2 (j := 4) rfl; have f4 := heap_frozen hS.2 4; simp [go_sem, e2, e18, k0, f0, k1, f1, k2, f2, k3, f3, k4, f4]; try rfl) ⟨fun hf => absurd hf (by decide), ?_⟩)
      refine restF_done (by kernel_rfl) ?_
      exact hfin _ _ hI ⟨⟨p1, r.pn, p2, p3, r.wn, p4, ym, r.mn, cm, ys, r.sn, cs, yn, r.nn, cn⟩, hS5, (((((hO.set (by dsimp only; omega) _).set (by dsimp only; omega) _).set (by dsimp only; omega) _).set (by dsimp only; omega) _).set (by dsimp only; omega) _), rfl, rfl, rfl, rfl, rfl, ((((((below_thn HB.out hq).setCell (by dsimp only; omega) _).setCell (by dsimp only; omega) _).setCell (by dsimp only; omega) _).setCell (by dsimp only; omega) _).setCell (by dsimp only; omega) _)⟩
    have st3msn : ∀ (p1 : Option Addr) (p2 : Nat) (p3 : Option Addr) (p4 : Nat) (ym : Option Addr) (cm : Nat) (ys : Option Addr) (cs : Nat) (bn : Nat) (ac : Act) (wo : World), Kept (List.range' 3 16) a0 ac → At ac 5 (.agg #[.slice p1 r.pn p2, .slice p3 r.wn p4]) → At ac 9 (.slice ym r.mn cm) → At ac 13 (.slice ys r.sn cs) → At ac 16 (.slice r.na r.nn r.nc) → At ac 14 (.slice (some ⟨bn, 0, none⟩) 0 0) → TwSt W.heap.size wo r d (some (p1, p2, p3, p4)) (some (ym, r.mn, cm)) (some (ys, r.sn, cs)) (some (some ⟨bn, 0, none⟩, 0, 0)) → (wo.heap[w.heap.size]? = some (rollB r) ∧ wo.heap[w.heap.size + 1]? = some ZB) → Below W.heap.size W wo → R 3 [0, 1, 4, 5, 8, 9, 12, 13, 3, 7, 11, 2, 6, 10] ac wo := by
      intro p1 p2 p3 p4 ym cm ys cs bn ac wo hI n5 n9 n13 n16 n14 hT hS hq
      rw [hR]
      obtain ⟨yn, cn, nw, hr, hT1, hb1⟩ := hT.appN (HR.out.below hq).n.vals HN.out.n (by have := hN.n; omega) hq.size 28
      have hsz2 := HSZ.out
      have hS1 : nw.heap[w.heap.size]? = some (rollB r) ∧ nw.heap[w.heap.size + 1]? = some ZB := ⟨(hb1.block _ (by omega)).trans hS.1, (hb1.block _ (by omega)).trans hS.2⟩
      have hq1 := hq.trans hb1
      refine restF_only (k := 14) (by kernel_rfl) (op_value (k := 14) (d := 17) (v := .slice yn r.nn cn) hI rfl rfl (by kernel_rfl) (Nat.lt_of_le_of_lt (by decide) hsz) (wanted_free rfl) (exec_append (.tmp 14) (.tmp 16) 28 28 rfl n14.eval n16.eval (hr)) (fun a' hI' n17' hk => ⟨fun _ => hS1, ?_⟩))
      replace n5 := hk _ _ n5 rfl
      replace n9 := hk _ _ n9 rfl
      replace n13 := hk _ _ n13 rfl
      replace n16 := hk _ _ n16 rfl
      replace n14 := hk _ _ n14 rfl
      have n17 := n17'
      replace hI := hI'
      clear hk hI' n17'
      obtain ⟨act9, rfl⟩ : ∃ x, x = a' := ⟨_, rfl⟩
      refine RestF.same (d' := [0, 1, 4, 5, 8, 9, 12, 13, 3, 7, 11, 2, 6, 10, 14]) ?_ (by kernel_rfl)
      rw [← hR]
      exact st4msn p1 p2 p3 p4 ym cm ys cs yn cn _ _ hI n5 n9 n13 n17 hT1 hS1 hq1
    have st2msn : ∀ (p1 : Option Addr) (p2 : Nat) (p3 : Option Addr) (p4 : Nat) (ym : Option Addr) (cm : Nat) (bs : Nat) (bn : Nat) (ac : Act) (wo : World), Kept (List.range' 3 16) a0 ac → At ac 5 (.agg #[.slice p1 r.pn p2, .slice p3 r.wn p4]) → At ac 9 (.slice ym r.mn cm) → At ac 12 (.slice r.sa r.sn r.sc) → At ac 10 (.slice (some ⟨bs, 0, none⟩) 0 0) → At ac 16 (.slice r.na r.nn r.nc) → At ac 14 (.slice (some ⟨bn, 0, none⟩) 0 0) → TwSt W.heap.size wo r d (some (p1, p2, p3, p4)) (some (ym, r.mn, cm)) (some (some ⟨bs, 0, none⟩, 0, 0)) (some (some ⟨bn, 0, none⟩, 0, 0)) → (wo.heap[w.heap.size]? = some (rollB r) ∧ wo.heap[w.heap.size + 1]? = some ZB) → Below W.heap.size W wo → R 4 [0, 1, 4, 5, 8, 9, 12, 13, 3, 7, 11, 2, 6] ac wo := by
      intro p1 p2 p3 p4 ym cm bs bn ac wo hI n5 n9 n12 n10 n16 n14 hT hS hq
      rw [hR]
      obtain ⟨ys, cs, nw, hr, hT1, hb1⟩ := hT.appS (HR.out.below hq).s HN.out.s (by have := hN.s; omega) hq.size 27
      have hsz2 := HSZ.out
      have hS1 : nw.heap[w.heap.size]? = some (rollB r) ∧ nw.heap[w.heap.size + 1]? = some ZB := ⟨(hb1.block _ (by omega)).trans hS.1, (hb1.block _ (by omega)).trans hS.2⟩
      have hq1 := hq.trans hb1
      refine restF_only (k := 10) (by kernel_rfl) (op_value (k := 10) (d := 13) (v := .slice ys r.sn cs) hI rfl rfl (by kernel_rfl) (Nat.lt_of_le_of_lt (by decide) hsz) (wanted_free rfl) (exec_append (.tmp 10) (.tmp 12) 27 27 rfl n10.eval n12.eval (hr)) (fun a' hI' n13' hk => ⟨fun _ => hS1, ?_⟩))
      replace n5 := hk _ _ n5 rfl
      replace n9 := hk _ _ n9 rfl
      replace n12 := hk _ _ n12 rfl
      replace n10 := hk _ _ n10 rfl
      replace n16 := hk _ _ n16 rfl
      replace n14 := hk _ _ n14 rfl
      have n13 := n13'
      replace hI := hI'
      clear hk hI' n13'
      obtain ⟨act9, rfl⟩ : ∃ x, x = a' := ⟨_, rfl⟩
      refine RestF.same (d' := [0, 1, 4, 5, 8, 9, 12, 13, 3, 7, 11, 2, 6, 10]) ?_ (by kernel_rfl)
      rw [← hR]
      exact st3msn p1 p2 p3 p4 ym cm ys cs bn _ _ hI n5 n9 n13 n16 n14 hT1 hS1 hq1
    have st3ms : ∀ (p1 : Option Addr) (p2 : Nat) (p3 : Option Addr) (p4 : Nat) (ym : Option Addr) (cm : Nat) (ys : Option Addr) (cs : Nat) (ac : Act) (wo : World), Kept (List.range' 3 16) a0 ac → At ac 5 (.agg #[.slice p1 r.pn p2, .slice p3 r.wn p4]) → At ac 9 (.slice ym r.mn cm) → At ac 13 (.slice ys r.sn cs) → At ac 16 (.slice r.na r.nn r.nc) → TwSt W.heap.size wo r d (some (p1, p2, p3, p4)) (some (ym, r.mn, cm)) (some (ys, r.sn, cs)) none → (wo.heap[w.heap.size]? = some (rollB r) ∧ wo.heap[w.heap.size + 1]? = some ZB) → Below W.heap.size W wo → R 4 [0, 1, 4, 5, 8, 9, 12, 13, 3, 7, 2, 6, 10] ac wo := by
      intro p1 p2 p3 p4 ym cm ys cs ac wo hI n5 n9 n13 n16 hT hS hq
      rw [hR]
      have hn1 := below_new wo (.cells #[] 34)
      have hT1 := hT.newN hq.size
      have hS1 : (wo.alloc (.cells #[] 34)).heap[w.heap.size]? = some (rollB r) ∧ (wo.alloc (.cells #[] 34)).heap[w.heap.size + 1]? = some ZB := (And.intro (heap_lft hS.1 hn1) (heap_lft hS.2 hn1))
      have hq1 := below_thn hq hn1
      obtain ⟨nw, hwe⟩ : ∃ y, wo.alloc (.cells #[] 34) = y := ⟨_, rfl⟩
      rw [hwe] at hn1 hT1 hS1 hq1
      refine restF_only (k := 11) (by kernel_rfl) (op_value (k := 11) (d := 14) (v := .slice (some ⟨wo.heap.size, 0, none⟩) 0 0) hI rfl rfl (by kernel_rfl) (Nat.lt_of_le_of_lt (by decide) hsz) (wanted_free rfl) (by simp [go_sem]; try rfl) (fun a' hI' n14' hk => ⟨fun _ => by rw [hwe]; exact hS1, ?_⟩))
      replace n5 := hk _ _ n5 rfl
      replace n9 := hk _ _ n9 rfl
      replace n13 := hk _ _ n13 rfl
      replace n16 := hk _ _ n16 rfl
      have n14 := n14'
      replace hI := hI'
      clear hk hI' n14'
      obtain ⟨act9, rfl⟩ : ∃ x, x = a' := ⟨_, rfl⟩
      rw [hwe]
      refine RestF.same (d' := [0, 1, 4, 5, 8, 9, 12, 13, 3, 7, 11, 2, 6, 10]) ?_ (by kernel_rfl)
      rw [← hR]
      exact st3msn p1 p2 p3 p4 ym cm ys cs wo.heap.size _ _ hI n5 n9 n13 n16 n14 hT1 hS1 hq1
    have st1msn : ∀ (p1 : Option Addr) (p2 : Nat) (p3 : Option Addr) (p4 : Nat) (bm : Nat) (bs : Nat) (bn : Nat) (ac : Act) (wo : World), Kept (List.range' 3 16) a0 ac → At ac 5 (.agg #[.slice p1 r.pn p2, .slice p3 r.wn p4]) → At ac 8 (.slice r.ma r.mn r.mc) → At ac 6 (.slice (some ⟨bm, 0, none⟩) 0 0) → At ac 12 (.slice r.sa r.sn r.sc) → At ac 10 (.slice (some ⟨bs, 0, none⟩) 0 0) → At ac 16 (.slice r.na r.nn r.nc) → At ac 14 (.slice (some ⟨bn, 0, none⟩) 0 0) → TwSt W.heap.size wo r d (some (p1, p2, p3, p4)) (some (some ⟨bm, 0, none⟩, 0, 0)) (some (some ⟨bs, 0, none⟩, 0, 0)) (some (some ⟨bn, 0, none⟩, 0, 0)) → (wo.heap[w.heap.size]? = some (rollB r) ∧ wo.heap[w.heap.size + 1]? = some ZB) → Below W.heap.size W wo → R 5 [0, 1, 4, 5, 8, 9, 12, 13, 3, 7, 11, 2] ac wo := by
      intro p1 p2 p3 p4 bm bs bn ac wo hI n5 n8 n6 n12 n10 n16 n14 hT hS hq
      rw [hR]
      obtain ⟨ym, cm, nw, hr, hT1, hb1⟩ := hT.appM (by rw [Nat.mul_one]; exact (HR.out.below hq).m) HN.out.m (by have := hN.m; omega) hq.size 26
      have hsz2 := HSZ.out
      have hS1 : nw.heap[w.heap.size]? = some (rollB r) ∧ nw.heap[w.heap.size + 1]? = some ZB := ⟨(hb1.block _ (by omega)).trans hS.1, (hb1.block _ (by omega)).trans hS.2⟩
      have hq1 := hq.trans hb1
      refine restF_only (k := 6) (by kernel_rfl) (op_value (k := 6) (d := 9) (v := .slice ym r.mn cm) hI rfl rfl (by kernel_rfl) (Nat.lt_of_le_of_lt (by decide) hsz) (wanted_free rfl) (exec_append (.tmp 6) (.tmp 8) 26 26 rfl n6.eval n8.eval (hr)) (fun a' hI' n9' hk => ⟨fun _ => hS1, ?_⟩))
      replace n5 := hk _ _ n5 rfl
      replace n8 := hk _ _ n8 rfl
      replace n6 := hk _ _ n6 rfl
      replace n12 := hk _ _ n12 rfl
      replace n10 := hk _ _ n10 rfl
      replace n16 := hk _ _ n16 rfl
      replace n14 := hk _ _ n14 rfl
      have n9 := n9'
      replace hI := hI'
      clear hk hI' n9'
      obtain ⟨act9, rfl⟩ : ∃ x, x = a' := ⟨_, rfl⟩
      refine RestF.same (d' := [0, 1, 4, 5, 8, 9, 12, 13, 3, 7, 11, 2, 6]) ?_ (by kernel_rfl)
      rw [← hR]
      exact st2msn p1 p2 p3 p4 ym cm bs bn _ _ hI n5 n9 n12 n10 n16 n14 hT1 hS1 hq1
    have st2ms : ∀ (p1 : Option Addr) (p2 : Nat) (p3 : Option Addr) (p4 : Nat) (ym : Option Addr) (cm : Nat) (bs : Nat) (ac : Act) (wo : World), Kept (List.range' 3 16) a0 ac → At ac 5 (.agg #[.slice p1 r.pn p2, .slice p3 r.wn p4]) → At ac 9 (.slice ym r.mn cm) → At ac 12 (.slice r.sa r.sn r.sc) → At ac 10 (.slice (some ⟨bs, 0, none⟩) 0 0) → At ac 16 (.slice r.na r.nn r.nc) → TwSt W.heap.size wo r d (some (p1, p2, p3, p4)) (some (ym, r.mn, cm)) (some (some ⟨bs, 0, none⟩, 0, 0)) none → (wo.heap[w.heap.size]? = some (rollB r) ∧ wo.heap[w.heap.size + 1]? = some ZB) → Below W.heap.size W wo → R 5 [0, 1, 4, 5, 8, 9, 12, 13, 3, 7, 2, 6] ac wo := by
      intro p1 p2 p3 p4 ym cm bs ac wo hI n5 n9 n12 n10 n16 hT hS hq
      rw [hR]
      refine restF_split [10, 11] (by kernel_rfl) rfl (fun i9 hi9 => ?_)
      have hi9' : i9 = 10 ∨ i9 = 11 := by simpa using hi9
      clear hi9
      rcases hi9' with rfl | rfl
      · obtain ⟨ys, cs, nw, hr, hT1, hb1⟩ := hT.appS (HR.out.below hq).s HN.out.s (by have := hN.s; omega) hq.size 27
        have hsz2 := HSZ.out
        have hS1 : nw.heap[w.heap.size]? = some (rollB r) ∧ nw.heap[w.heap.size + 1]? = some ZB := ⟨(hb1.block _ (by omega)).trans hS.1, (hb1.block _ (by omega)).trans hS.2⟩
        have hq1 := hq.trans hb1
        refine _root_.id (op_value (k := 10) (d := 13) (v := .slice ys r.sn cs) hI rfl rfl (by kernel_rfl) (Nat.lt_of_le_of_lt (by decide) hsz) (wanted_free rfl) (exec_append (.tmp 10) (.tmp 12) 27 27 rfl n10.eval n12.eval (hr)) (fun a' hI' n13' hk => ⟨fun _ => hS1, ?_⟩))
        replace n5 := hk _ _ n5 rfl
        replace n9 := hk _ _ n9 rfl
        replace n12 := hk _ _ n12 rfl
        replace n10 := hk _ _ n10 rfl
        replace n16 := hk _ _ n16 rfl
        have n13 := n13'
        replace hI := hI'
        clear hk hI' n13'
        obtain ⟨act9, rfl⟩ : ∃ x, x = a' := ⟨_, rfl⟩
        refine RestF.same (d' := [0, 1, 4, 5, 8, 9, 12, 13, 3, 7, 2, 6, 10]) ?_ (by kernel_rfl)
        rw [← hR]
        exact st3ms p1 p2 p3 p4 ym cm ys cs _ _ hI n5 n9 n13 n16 hT1 hS1 hq1
      · have hn1 := below_new wo (.cells #[] 34)
        have hT1 := hT.newN hq.size
        have hS1 : (wo.alloc (.cells #[] 34)).heap[w.heap.size]? = some (rollB r) ∧ (wo.alloc (.cells #[] 34)).heap[w.heap.size + 1]? = some ZB := (And.intro (heap_lft hS.1 hn1) (heap_lft hS.2 hn1))
        have hq1 := below_thn hq hn1
        obtain ⟨nw, hwe⟩ : ∃ y, wo.alloc (.cells #[] 34) = y := ⟨_, rfl⟩
        rw [hwe] at hn1 hT1 hS1 hq1
        refine _root_.id (op_value (k := 11) (d := 14) (v := .slice (some ⟨wo.heap.size, 0, none⟩) 0 0) hI rfl rfl (by kernel_rfl) (Nat.lt_of_le_of_lt (by decide) hsz) (wanted_free rfl) (by simp [go_sem]; try rfl) (fun a' hI' n14' hk => ⟨fun _ => by rw [hwe]; exact hS1, ?_⟩))
        replace n5 := hk _ _ n5 rfl
        replace n9 := hk _ _ n9 rfl
        replace n12 := hk _ _ n12 rfl
        replace n10 := hk _ _ n10 rfl
        replace n16 := hk _ _ n16 rfl
        have n14 := n14'
        replace hI := hI'
        clear hk hI' n14'
        obtain ⟨act9, rfl⟩ : ∃ x, x = a' := ⟨_, rfl⟩
        rw [hwe]
        refine RestF.same (d' := [0, 1, 4, 5, 8, 9, 12, 13, 3, 7, 11, 2, 6]) ?_ (by kernel_rfl)
        rw [← hR]
        exact st2msn p1 p2 p3 p4 ym cm bs wo.heap.size _ _ hI n5 n9 n12 n10 n16 n14 hT1 hS1 hq1
    have st2mn : ∀ (p1 : Option Addr) (p2 : Nat) (p3 : Option Addr) (p4 : Nat) (ym : Option Addr) (cm : Nat) (bn : Nat) (ac : Act) (wo : World), Kept (List.range' 3 16) a0 ac → At ac 5 (.agg #[.slice p1 r.pn p2, .slice p3 r.wn p4]) → At ac 9 (.slice ym r.mn cm) → At ac 12 (.slice r.sa r.sn r.sc) → At ac 16 (.slice r.na r.nn r.nc) → At ac 14 (.slice (some ⟨bn, 0, none⟩) 0 0) → TwSt W.heap.size wo r d (some (p1, p2, p3, p4)) (some (ym, r.mn, cm)) none (some (some ⟨bn, 0, none⟩, 0, 0)) → (wo.heap[w.heap.size]? = some (rollB r) ∧ wo.heap[w.heap.size + 1]? = some ZB) → Below W.heap.size W wo → R 5 [0, 1, 4, 5, 8, 9, 12, 13, 3, 11, 2, 6] ac wo := by
      intro p1 p2 p3 p4 ym cm bn ac wo hI n5 n9 n12 n16 n14 hT hS hq
      rw [hR]
      have hn1 := below_new wo (.cells #[] 47)
      have hT1 := hT.newS hq.size
      have hS1 : (wo.alloc (.cells #[] 47)).heap[w.heap.size]? = some (rollB r) ∧ (wo.alloc (.cells #[] 47)).heap[w.heap.size + 1]? = some ZB := (And.intro (heap_lft hS.1 hn1) (heap_lft hS.2 hn1))
      have hq1 := below_thn hq hn1
      obtain ⟨nw, hwe⟩ : ∃ y, wo.alloc (.cells #[] 47) = y := ⟨_, rfl⟩
      rw [hwe] at hn1 hT1 hS1 hq1
      refine restF_only (k := 7) (by kernel_rfl) (op_value (k := 7) (d := 10) (v := .slice (some ⟨wo.heap.size, 0, none⟩) 0 0) hI rfl rfl (by kernel_rfl) (Nat.lt_of_le_of_lt (by decide) hsz) (wanted_free rfl) (by simp [go_sem]; try rfl) (fun a' hI' n10' hk => ⟨fun _ => by rw [hwe]; exact hS1, ?_⟩))
      replace n5 := hk _ _ n5 rfl
      replace n9 := hk _ _ n9 rfl
      replace n12 := hk _ _ n12 rfl
      replace n16 := hk _ _ n16 rfl
      replace n14 := hk _ _ n14 rfl
      have n10 := n10'
      replace hI := hI'
      clear hk hI' n10'
      obtain ⟨act9, rfl⟩ : ∃ x, x = a' := ⟨_, rfl⟩
      rw [hwe]
      refine RestF.same (d' := [0, 1, 4, 5, 8, 9, 12, 13, 3, 7, 11, 2, 6]) ?_ (by kernel_rfl)
      rw [← hR]
      exact st2msn p1 p2 p3 p4 ym cm wo.heap.size bn _ _ hI n5 n9 n12 n10 n16 n14 hT1 hS1 hq1
    have st0msn : ∀ (bm : Nat) (bs : Nat) (bn : Nat) (ac : Act) (wo : World), Kept (List.range' 3 16) a0 ac → At ac 4 (.agg #[.slice r.pa r.pn r.pc, .slice r.wa r.wn r.wc]) → At ac 8 (.slice r.ma r.mn r.mc) → At ac 6 (.slice (some ⟨bm, 0, none⟩) 0 0) → At ac 12 (.slice r.sa r.sn r.sc) → At ac 10 (.slice (some ⟨bs, 0, none⟩) 0 0) → At ac 16 (.slice r.na r.nn r.nc) → At ac 14 (.slice (some ⟨bn, 0, none⟩) 0 0) → TwSt W.heap.size wo r d none (some (some ⟨bm, 0, none⟩, 0, 0)) (some (some ⟨bs, 0, none⟩, 0, 0)) (some (some ⟨bn, 0, none⟩, 0, 0)) → (wo.heap[w.heap.size]? = some (rollB r) ∧ wo.heap[w.heap.size + 1]? = some ZB) → Below W.heap.size W wo → R 6 [0, 1, 4, 5, 8, 9, 12, 13, 3, 7, 11] ac wo := by
      intro bm bs bn ac wo hI n4 n8 n6 n12 n10 n16 n14 hT hS hq
      rw [hR]
      refine restF_only (k := 2) (by kernel_rfl) (op_call (k := 2) (d := 5) (R := fun v w' => ∃ p1 p2 p3 p4, v = .agg #[.slice p1 r.pn p2, .slice p3 r.wn p4] ∧ OwnNums w' wo.heap.size 49 4 p1 r.pn p2 d.P ∧ OwnNums w' wo.heap.size 53 5 p3 r.wn p4 d.W ∧ Below wo.heap.size wo w') hI rfl rfl (by kernel_rfl) (Nat.lt_of_le_of_lt (by decide) hsz) (wanted_free rfl) ((twin_any r.pa r.pn r.pc r.wa r.wn r.wc d.P d.W hN.p hN.w HN.out.p HN.out.w _ (HR.out.below hq).p (HR.out.below hq).g).mono fun e w' g => by obtain ⟨a1, c1, a2, c2, h1, h2, h3, h4⟩ := g; exact ⟨_, h1, a1, c1, a2, c2, rfl, h2, h3, h4⟩) (by have e4 := n4; have f4 := n4.eval; unfold At at e4; simp [go_sem, e4]) ?_)
      intro v w' a' hR' hI' n5' hk
      obtain ⟨p1, p2, p3, p4, rfl, h1, h2, hb⟩ := hR'
      refine ⟨fun _ => (And.intro (heap_lft hS.1 hb) (heap_lft hS.2 hb)), ?_⟩
      replace n4 := hk _ _ n4 rfl
      replace n8 := hk _ _ n8 rfl
      replace n6 := hk _ _ n6 rfl
      replace n12 := hk _ _ n12 rfl
      replace n10 := hk _ _ n10 rfl
      replace n16 := hk _ _ n16 rfl
      replace n14 := hk _ _ n14 rfl
      have n5 := n5'
      replace hI := hI'
      clear hk hI' n5'
      obtain ⟨act9, rfl⟩ : ∃ x, x = a' := ⟨_, rfl⟩
      have hT1 := (hT.below hb).setP p1 p2 p3 p4 (h1.base hq.size) (h2.base hq.size)
      have hS1 := (And.intro (heap_lft hS.1 hb) (heap_lft hS.2 hb))
      have hq1 := below_thn hq hb
      refine RestF.same (d' := [0, 1, 4, 5, 8, 9, 12, 13, 3, 7, 11, 2]) ?_ (by kernel_rfl)
      rw [← hR]
      exact st1msn p1 p2 p3 p4 bm bs bn _ _ hI n5 n8 n6 n12 n10 n16 n14 hT1 hS1 hq1
    have st1ms : ∀ (p1 : Option Addr) (p2 : Nat) (p3 : Option Addr) (p4 : Nat) (bm : Nat) (bs : Nat) (ac : Act) (wo : World), Kept (List.range' 3 16) a0 ac → At ac 5 (.agg #[.slice p1 r.pn p2, .slice p3 r.wn p4]) → At ac 8 (.slice r.ma r.mn r.mc) → At ac 6 (.slice (some ⟨bm, 0, none⟩) 0 0) → At ac 12 (.slice r.sa r.sn r.sc) → At ac 10 (.slice (some ⟨bs, 0, none⟩) 0 0) → At ac 16 (.slice r.na r.nn r.nc) → TwSt W.heap.size wo r d (some (p1, p2, p3, p4)) (some (some ⟨bm, 0, none⟩, 0, 0)) (some (some ⟨bs, 0, none⟩, 0, 0)) none → (wo.heap[w.heap.size]? = some (rollB r) ∧ wo.heap[w.heap.size + 1]? = some ZB) → Below W.heap.size W wo → R 6 [0, 1, 4, 5, 8, 9, 12, 13, 3, 7, 2] ac wo := by
      intro p1 p2 p3 p4 bm bs ac wo hI n5 n8 n6 n12 n10 n16 hT hS hq
      rw [hR]
      refine restF_split [6, 11] (by kernel_rfl) rfl (fun i9 hi9 => ?_)
      have hi9' : i9 = 6 ∨ i9 = 11 := by simpa using hi9
      clear hi9
      rcases hi9' with rfl | rfl
      · obtain ⟨ym, cm, nw, hr, hT1, hb1⟩ := hT.appM (by rw [Nat.mul_one]; exact (HR.out.below hq).m) HN.out.m (by have := hN.m; omega) hq.size 26
        have hsz2 := HSZ.out
        have hS1 : nw.heap[w.heap.size]? = some (rollB r) ∧ nw.heap[w.heap.size + 1]? = some ZB := ⟨(hb1.block _ (by omega)).trans hS.1, (hb1.block _ (by omega)).trans hS.2⟩
        have hq1 := hq.trans hb1
        refine _root_.id (op_value (k := 6) (d := 9) (v := .slice ym r.mn cm) hI rfl rfl (by kernel_rfl) (Nat.lt_of_le_of_lt (by decide) hsz) (wanted_free rfl) (exec_append (.tmp 6) (.tmp 8) 26 26 rfl n6.eval n8.eval (hr)) (fun a' hI' n9' hk => ⟨fun _ => hS1, ?_⟩))
        replace n5 := hk _ _ n5 rfl
        replace n8 := hk _ _ n8 rfl
        replace n6 := hk _ _ n6 rfl
        replace n12 := hk _ _ n12 rfl
        replace n10 := hk _ _ n10 rfl
        replace n16 := hk _ _ n16 rfl
        have n9 := n9'
        replace hI := hI'
        clear hk hI' n9'
        obtain ⟨act9, rfl⟩ : ∃ x, x = a' := ⟨_, rfl⟩
        refine RestF.same (d' := [0, 1, 4, 5, 8, 9, 12, 13, 3, 7, 2, 6]) ?_ (by kernel_rfl)
        rw [← hR]
        exact st2ms p1 p2 p3 p4 ym cm bs _ _ hI n5 n9 n12 n10 n16 hT1 hS1 hq1
      · have hn1 := below_new wo (.cells #[] 34)
        have hT1 := hT.newN hq.size
        have hS1 : (wo.alloc (.cells #[] 34)).heap[w.heap.size]? = some (rollB r) ∧ (wo.alloc (.cells #[] 34)).heap[w.heap.size + 1]? = some ZB := (And.intro (heap_lft hS.1 hn1) (heap_lft hS.2 hn1))
        have hq1 := below_thn hq hn1
        obtain ⟨nw, hwe⟩ : ∃ y, wo.alloc (.cells #[] 34) = y := ⟨_, rfl⟩
        rw [hwe] at hn1 hT1 hS1 hq1
        refine _root_.id (op_value (k := 11) (d := 14) (v := .slice (some ⟨wo.heap.size, 0, none⟩) 0 0) hI rfl rfl (by kernel_rfl) (Nat.lt_of_le_of_lt (by decide) hsz) (wanted_free rfl) (by simp [go_sem]; try rfl) (fun a' hI' n14' hk => ⟨fun _ => by rw [hwe]; exact hS1, ?_⟩))
        replace n5 := hk _ _ n5 rfl
        replace n8 := hk _ _ n8 rfl
        replace n6 := hk _ _ n6 rfl
        replace n12 := hk _ _ n12 rfl
        replace n10 := hk _ _ n10 rfl
        replace n16 := hk _ _ n16 rfl
        have n14 := n14'
        replace hI := hI'
        clear hk hI' n14'
        obtain ⟨act9, rfl⟩ : ∃ x, x = a' := ⟨_, rfl⟩
        rw [hwe]
        refine RestF.same (d' := [0, 1, 4, 5, 8, 9, 12, 13, 3, 7, 11, 2]) ?_ (by kernel_rfl)
        rw [← hR]
        exact st1msn p1 p2 p3 p4 bm bs wo.heap.size _ _ hI n5 n8 n6 n12 n10 n16 n14 hT1 hS1 hq1
    have st1mn : ∀ (p1 : Option Addr) (p2 : Nat) (p3 : Option Addr) (p4 : Nat) (bm : Nat) (bn : Nat) (ac : Act) (wo : World), Kept (List.range' 3 16) a0 ac → At ac 5 (.agg #[.slice p1 r.pn p2, .slice p3 r.wn p4]) → At ac 8 (.slice r.ma r.mn r.mc) → At ac 6 (.slice (some ⟨bm, 0, none⟩) 0 0) → At ac 12 (.slice r.sa r.sn r.sc) → At ac 16 (.slice r.na r.nn r.nc) → At ac 14 (.slice (some ⟨bn, 0, none⟩) 0 0) → TwSt W.heap.size wo r d (some (p1, p2, p3, p4)) (some (some ⟨bm, 0, none⟩, 0, 0)) none (some (some ⟨bn, 0, none⟩, 0, 0)) → (wo.heap[w.heap.size]? = some (rollB r) ∧ wo.heap[w.heap.size + 1]? = some ZB) → Below W.heap.size W wo → R 6 [0, 1, 4, 5, 8, 9, 12, 13, 3, 11, 2] ac wo := by
      intro p1 p2 p3 p4 bm bn ac wo hI n5 n8 n6 n12 n16 n14 hT hS hq
      rw [hR]
      refine restF_split [6, 7] (by kernel_rfl) rfl (fun i9 hi9 => ?_)
      have hi9' : i9 = 6 ∨ i9 = 7 := by simpa using hi9
      clear hi9
      rcases hi9' with rfl | rfl
      · obtain ⟨ym, cm, nw, hr, hT1, hb1⟩ := hT.appM (by rw [Nat.mul_one]; exact (HR.out.below hq).m) HN.out.m (by have := hN.m; omega) hq.size 26
        have hsz2 := HSZ.out
        have hS1 : nw.heap[w.heap.size]? = some (rollB r) ∧ nw.heap[w.heap.size + 1]? = some ZB := ⟨(hb1.block _ (by omega)).trans hS.1, (hb1.block _ (by omega)).trans hS.2⟩
        have hq1 := hq.trans hb1
        refine _root_.id (op_value (k := 6) (d := 9) (v := .slice ym r.mn cm) hI rfl rfl (by kernel_rfl) (Nat.lt_of_le_of_lt (by decide) hsz) (wanted_free rfl) (exec_append (.tmp 6) (.tmp 8) 26 26 rfl n6.eval n8.eval (hr)) (fun a' hI' n9' hk => ⟨fun _ => hS1, ?_⟩))
        replace n5 := hk _ _ n5 rfl
        replace n8 := hk _ _ n8 rfl
        replace n6 := hk _ _ n6 rfl
        replace n12 := hk _ _ n12 rfl
        replace n16 := hk _ _ n16 rfl
        replace n14 := hk _ _ n14 rfl
        have n9 := n9'
        replace hI := hI'
        clear hk hI' n9'
        obtain ⟨act9, rfl⟩ : ∃ x, x = a' := ⟨_, rfl⟩
        refine RestF.same (d' := [0, 1, 4, 5, 8, 9, 12, 13, 3, 11, 2, 6]) ?_ (by kernel_rfl)
        rw [← hR]
        exact st2mn p1 p2 p3 p4 ym cm bn _ _ hI n5 n9 n12 n16 n14 hT1 hS1 hq1
      · have hn1 := below_new wo (.cells #[] 47)
        have hT1 := hT.newS hq.size
        have hS1 : (wo.alloc (.cells #[] 47)).heap[w.heap.size]? = some (rollB r) ∧ (wo.alloc (.cells #[] 47)).heap[w.heap.size + 1]? = some ZB := (And.intro (heap_lft hS.1 hn1) (heap_lft hS.2 hn1))
        have hq1 := below_thn hq hn1
        obtain ⟨nw, hwe⟩ : ∃ y, wo.alloc (.cells #[] 47) = y := ⟨_, rfl⟩
        rw [hwe] at hn1 hT1 hS1 hq1
        refine _root_.id (op_value (k := 7) (d := 10) (v := .slice (some ⟨wo.heap.size, 0, none⟩) 0 0) hI rfl rfl (by kernel_rfl) (Nat.lt_of_le_of_lt (by decide) hsz) (wanted_free rfl) (by simp [go_sem]; try rfl) (fun a' hI' n10' hk => ⟨fun _ => by rw [hwe]; exact hS1, ?_⟩))
        replace n5 := hk _ _ n5 rfl
        replace n8 := hk _ _ n8 rfl
        replace n6 := hk _ _ n6 rfl
        replace n12 := hk _ _ n12 rfl
        replace n16 := hk _ _ n16 rfl
        replace n14 := hk _ _ n14 rfl
        have n10 := n10'
        replace hI := hI'
        clear hk hI' n10'
        obtain ⟨act9, rfl⟩ : ∃ x, x = a' := ⟨_, rfl⟩
        rw [hwe]
        refine RestF.same (d' := [0, 1, 4, 5, 8, 9, 12, 13, 3, 7, 11, 2]) ?_ (by kernel_rfl)
        rw [← hR]
        exact st1msn p1 p2 p3 p4 bm wo.heap.size bn _ _ hI n5 n8 n6 n12 n10 n16 n14 hT1 hS1 hq1
    have st1sn : ∀ (p1 : Option Addr) (p2 : Nat) (p3 : Option Addr) (p4 : Nat) (bs : Nat) (bn : Nat) (ac : Act) (wo : World), Kept (List.range' 3 16) a0 ac → At ac 5 (.agg #[.slice p1 r.pn p2, .slice p3 r.wn p4]) → At ac 8 (.slice r.ma r.mn r.mc) → At ac 12 (.slice r.sa r.sn r.sc) → At ac 10 (.slice (some ⟨bs, 0, none⟩) 0 0) → At ac 16 (.slice r.na r.nn r.nc) → At ac 14 (.slice (some ⟨bn, 0, none⟩) 0 0) → TwSt W.heap.size wo r d (some (p1, p2, p3, p4)) none (some (some ⟨bs, 0, none⟩, 0, 0)) (some (some ⟨bn, 0, none⟩, 0, 0)) → (wo.heap[w.heap.size]? = some (rollB r) ∧ wo.heap[w.heap.size + 1]? = some ZB) → Below W.heap.size W wo → R 6 [0, 1, 4, 5, 8, 9, 12, 13, 7, 11, 2] ac wo := by
      intro p1 p2 p3 p4 bs bn ac wo hI n5 n8 n12 n10 n16 n14 hT hS hq
      rw [hR]
      have hn1 := below_new wo (.cells #[] 3)
      have hT1 := hT.newM hq.size
      have hS1 : (wo.alloc (.cells #[] 3)).heap[w.heap.size]? = some (rollB r) ∧ (wo.alloc (.cells #[] 3)).heap[w.heap.size + 1]? = some ZB := (And.intro (heap_lft hS.1 hn1) (heap_lft hS.2 hn1))
      have hq1 := below_thn hq hn1
      obtain ⟨nw, hwe⟩ : ∃ y, wo.alloc (.cells #[] 3) = y := ⟨_, rfl⟩
      rw [hwe] at hn1 hT1 hS1 hq1
      refine restF_only (k := 3) (by kernel_rfl) (op_value (k := 3) (d := 6) (v := .slice (some ⟨wo.heap.size, 0, none⟩) 0 0) hI rfl rfl (by kernel_rfl) (Nat.lt_of_le_of_lt (by decide) hsz) (wanted_free rfl) (by simp [go_sem]; try rfl) (fun a' hI' n6' hk => ⟨fun _ => by rw [hwe]; exact hS1, ?_⟩))
      replace n5 := hk _ _ n5 rfl
      replace n8 := hk _ _ n8 rfl
      replace n12 := hk _ _ n12 rfl
      replace n10 := hk _ _ n10 rfl
      replace n16 := hk _ _ n16 rfl
      replace n14 := hk _ _ n14 rfl
      have n6 := n6'
      replace hI := hI'
      clear hk hI' n6'
      obtain ⟨act9, rfl⟩ : ∃ x, x = a' := ⟨_, rfl⟩
      rw [hwe]
      refine RestF.same (d' := [0, 1, 4, 5, 8, 9, 12, 13, 3, 7, 11, 2]) ?_ (by kernel_rfl)
      rw [← hR]
      exact st1msn p1 p2 p3 p4 wo.heap.size bs bn _ _ hI n5 n8 n6 n12 n10 n16 n14 hT1 hS1 hq1
    have st2m : ∀ (p1 : Option Addr) (p2 : Nat) (p3 : Option Addr) (p4 : Nat) (ym : Option Addr) (cm : Nat) (ac : Act) (wo : World), Kept (List.range' 3 16) a0 ac → At ac 5 (.agg #[.slice p1 r.pn p2, .slice p3 r.wn p4]) → At ac 9 (.slice ym r.mn cm) → At ac 12 (.slice r.sa r.sn r.sc) → At ac 16 (.slice r.na r.nn r.nc) → TwSt W.heap.size wo r d (some (p1, p2, p3, p4)) (some (ym, r.mn, cm)) none none → (wo.heap[w.heap.size]? = some (rollB r) ∧ wo.heap[w.heap.size + 1]? = some ZB) → Below W.heap.size W wo → R 6 [0, 1, 4, 5, 8, 9, 12, 13, 3, 2, 6] ac wo := by
      intro p1 p2 p3 p4 ym cm ac wo hI n5 n9 n12 n16 hT hS hq
      rw [hR]
      refine restF_split [7, 11] (by kernel_rfl) rfl (fun i9 hi9 => ?_)
      have hi9' : i9 = 7 ∨ i9 = 11 := by simpa using hi9
      clear hi9
      rcases hi9' with rfl | rfl
      · have hn1 := below_new wo (.cells #[] 47)
        have hT1 := hT.newS hq.size
        have hS1 : (wo.alloc (.cells #[] 47)).heap[w.heap.size]? = some (rollB r) ∧ (wo.alloc (.cells #[] 47)).heap[w.heap.size + 1]? = some ZB := (And.intro (heap_lft hS.1 hn1) (heap_lft hS.2 hn1))
        have hq1 := below_thn hq hn1
        obtain ⟨nw, hwe⟩ : ∃ y, wo.alloc (.cells #[] 47) = y := ⟨_, rfl⟩
        rw [hwe] at hn1 hT1 hS1 hq1
        refine _root_.id (op_value (k := 7) (d := 10) (v := .slice (some ⟨wo.heap.size, 0, none⟩) 0 0) hI rfl rfl (by kernel_rfl) (Nat.lt_of_le_of_lt (by decide) hsz) (wanted_free rfl) (by simp [go_sem]; try rfl) (fun a' hI' n10' hk => ⟨fun _ => by rw [hwe]; exact hS1, ?_⟩))
        replace n5 := hk _ _ n5 rfl
        replace n9 := hk _ _ n9 rfl
        replace n12 := hk _ _ n12 rfl
        replace n16 := hk _ _ n16 rfl
        have n10 := n10'
        replace hI := hI'
        clear hk hI' n10'
        obtain ⟨act9, rfl⟩ : ∃ x, x = a' := ⟨_, rfl⟩
        rw [hwe]
        refine RestF.same (d' := [0, 1, 4, 5, 8, 9, 12, 13, 3, 7, 2, 6]) ?_ (by kernel_rfl)
        rw [← hR]
        exact st2ms p1 p2 p3 p4 ym cm wo.heap.size _ _ hI n5 n9 n12 n10 n16 hT1 hS1 hq1
      · have hn1 := below_new wo (.cells #[] 34)
        have hT1 := hT.newN hq.size
        have hS1 : (wo.alloc (.cells #[] 34)).heap[w.heap.size]? = some (rollB r) ∧ (wo.alloc (.cells #[] 34)).heap[w.heap.size + 1]? = some ZB := (And.intro (heap_lft hS.1 hn1) (heap_lft hS.2 hn1))
        have hq1 := below_thn hq hn1
        obtain ⟨nw, hwe⟩ : ∃ y, wo.alloc (.cells #[] 34) = y := ⟨_, rfl⟩
        rw [hwe] at hn1 hT1 hS1 hq1
        refine _root_.id (op_value (k := 11) (d := 14) (v := .slice (some ⟨wo.heap.size, 0, none⟩) 0 0) hI rfl rfl (by kernel_rfl) (Nat.lt_of_le_of_lt (by decide) hsz) (wanted_free rfl) (by simp [go_sem]; try rfl) (fun a' hI' n14' hk => ⟨fun _ => by rw [hwe]; exact hS1, ?_⟩))
        replace n5 := hk _ _ n5 rfl
        replace n9 := hk _ _ n9 rfl
        replace n12 := hk _ _ n12 rfl
        replace n16 := hk _ _ n16 rfl
        have n14 := n14'
        replace hI := hI'
        clear hk hI' n14'
        obtain ⟨act9, rfl⟩ : ∃ x, x = a' := ⟨_, rfl⟩
        rw [hwe]
        refine RestF.same (d' := [0, 1, 4, 5, 8, 9, 12, 13, 3, 11, 2, 6]) ?_ (by kernel_rfl)
        rw [← hR]
        exact st2mn p1 p2 p3 p4 ym cm wo.heap.size _ _ hI n5 n9 n12 n16 n14 hT1 hS1 hq1
    have st0ms : ∀ (bm : Nat) (bs : Nat) (ac : Act) (wo : World), Kept (List.range' 3 16) a0 ac → At ac 4 (.agg #[.slice r.pa r.pn r.pc, .slice r.wa r.wn r.wc]) → At ac 8 (.slice r.ma r.mn r.mc) → At ac 6 (.slice (some ⟨bm, 0, none⟩) 0 0) → At ac 12 (.slice r.sa r.sn r.sc) → At ac 10 (.slice (some ⟨bs, 0, none⟩) 0 0) → At ac 16 (.slice r.na r.nn r.nc) → TwSt W.heap.size wo r d none (some (some ⟨bm, 0, none⟩, 0, 0)) (some (some ⟨bs, 0, none⟩, 0, 0)) none → (wo.heap[w.heap.size]? = some (rollB r) ∧ wo.heap[w.heap.size + 1]? = some ZB) → Below W.heap.size W wo → R 7 [0, 1, 4, 5, 8, 9, 12, 13, 3, 7] ac wo := by
      intro bm bs ac wo hI n4 n8 n6 n12 n10 n16 hT hS hq
      rw [hR]
      refine restF_split [2, 11] (by kernel_rfl) rfl (fun i9 hi9 => ?_)
      have hi9' : i9 = 2 ∨ i9 = 11 := by simpa using hi9
      clear hi9
      rcases hi9' with rfl | rfl
      · refine _root_.id (op_call (k := 2) (d := 5) (R := fun v w' => ∃ p1 p2 p3 p4, v = .agg #[.slice p1 r.pn p2, .slice p3 r.wn p4] ∧ OwnNums w' wo.heap.size 49 4 p1 r.pn p2 d.P ∧ OwnNums w' wo.heap.size 53 5 p3 r.wn p4 d.W ∧ Below wo.heap.size wo w') hI rfl rfl (by kernel_rfl) (Nat.lt_of_le_of_lt (by decide) hsz) (wanted_free rfl) ((twin_any r.pa r.pn r.pc r.wa r.wn r.wc d.P d.W hN.p hN.w HN.out.p HN.out.w _ (HR.out.below hq).p (HR.out.below hq).g).mono fun e w' g => by obtain ⟨a1, c1, a2, c2, h1, h2, h3, h4⟩ := g; exact ⟨_, h1, a1, c1, a2, c2, rfl, h2, h3, h4⟩) (by have e4 := n4; have f4 := n4.eval; unfold At at e4; simp [go_sem, e4]) ?_)
        intro v w' a' hR' hI' n5' hk
        obtain ⟨p1, p2, p3, p4, rfl, h1, h2, hb⟩ := hR'
        refine ⟨fun _ => (And.intro (heap_lft hS.1 hb) (heap_lft hS.2 hb)), ?_⟩
        replace n4 := hk _ _ n4 rfl
        replace n8 := hk _ _ n8 rfl
        replace n6 := hk _ _ n6 rfl
        replace n12 := hk _ _ n12 rfl
        replace n10 := hk _ _ n10 rfl
        replace n16 := hk _ _ n16 rfl
        have n5 := n5'
        replace hI := hI'
        clear hk hI' n5'
        obtain ⟨act9, rfl⟩ : ∃ x, x = a' := ⟨_, rfl⟩
        have hT1 := (hT.below hb).setP p1 p2 p3 p4 (h1.base hq.size) (h2.base hq.size)
        have hS1 := (And.intro (heap_lft hS.1 hb) (heap_lft hS.2 hb))
        have hq1 := below_thn hq hb
        refine RestF.same (d' := [0, 1, 4, 5, 8, 9, 12, 13, 3, 7, 2]) ?_ (by kernel_rfl)
        rw [← hR]
        exact st1ms p1 p2 p3 p4 bm bs _ _ hI n5 n8 n6 n12 n10 n16 hT1 hS1 hq1
      · have hn1 := below_new wo (.cells #[] 34)
        have hT1 := hT.newN hq.size
        have hS1 : (wo.alloc (.cells #[] 34)).heap[w.heap.size]? = some (rollB r) ∧ (wo.alloc (.cells #[] 34)).heap[w.heap.size + 1]? = some ZB := (And.intro (heap_lft hS.1 hn1) (heap_lft hS.2 hn1))
        have hq1 := below_thn hq hn1
        obtain ⟨nw, hwe⟩ : ∃ y, wo.alloc (.cells #[] 34) = y := ⟨_, rfl⟩
        rw [hwe] at hn1 hT1 hS1 hq1
        refine _root_.id (op_value (k := 11) (d := 14) (v := .slice (some ⟨wo.heap.size, 0, none⟩) 0 0) hI rfl rfl (by kernel_rfl) (Nat.lt_of_le_of_lt (by decide) hsz) (wanted_free rfl) (by simp [go_sem]; try rfl) (fun a' hI' n14' hk => ⟨fun _ => by rw [hwe]; exact hS1, ?_⟩))
        replace n4 := hk _ _ n4 rfl
        replace n8 := hk _ _ n8 rfl
        replace n6 := hk _ _ n6 rfl
        replace n12 := hk _ _ n12 rfl
        replace n10 := hk _ _ n10 rfl
        replace n16 := hk _ _ n16 rfl
        have n14 := n14'
        replace hI := hI'
        clear hk hI' n14'
        obtain ⟨act9, rfl⟩ : ∃ x, x = a' := ⟨_, rfl⟩
        rw [hwe]
        refine RestF.same (d' := [0, 1, 4, 5, 8, 9, 12, 13, 3, 7, 11]) ?_ (by kernel_rfl)
        rw [← hR]
        exact st0msn bm bs wo.heap.size _ _ hI n4 n8 n6 n12 n10 n16 n14 hT1 hS1 hq1
    have st0mn : ∀ (bm : Nat) (bn : Nat) (ac : Act) (wo : World), Kept (List.range' 3 16) a0 ac → At ac 4 (.agg #[.slice r.pa r.pn r.pc, .slice r.wa r.wn r.wc]) → At ac 8 (.slice r.ma r.mn r.mc) → At ac 6 (.slice (some ⟨bm, 0, none⟩) 0 0) → At ac 12 (.slice r.sa r.sn r.sc) → At ac 16 (.slice r.na r.nn r.nc) → At ac 14 (.slice (some ⟨bn, 0, none⟩) 0 0) → TwSt W.heap.size wo r d none (some (some ⟨bm, 0, none⟩, 0, 0)) none (some (some ⟨bn, 0, none⟩, 0, 0)) → (wo.heap[w.heap.size]? = some (rollB r) ∧ wo.heap[w.heap.size + 1]? = some ZB) → Below W.heap.size W wo → R 7 [0, 1, 4, 5, 8, 9, 12, 13, 3, 11] ac wo := by
      intro bm bn ac wo hI n4 n8 n6 n12 n16 n14 hT hS hq
      rw [hR]
      refine restF_split [2, 7] (by kernel_rfl) rfl (fun i9 hi9 => ?_)
      have hi9' : i9 = 2 ∨ i9 = 7 := by simpa using hi9
      clear hi9
      rcases hi9' with rfl | rfl
      · refine _root_.id (op_call (k := 2) (d := 5) (R := fun v w' => ∃ p1 p2 p3 p4, v = .agg #[.slice p1 r.pn p2, .slice p3 r.wn p4] ∧ OwnNums w' wo.heap.size 49 4 p1 r.pn p2 d.P ∧ OwnNums w' wo.heap.size 53 5 p3 r.wn p4 d.W ∧ Below wo.heap.size wo w') hI rfl rfl (by kernel_rfl) (Nat.lt_of_le_of_lt (by decide) hsz) (wanted_free rfl) ((twin_any r.pa r.pn r.pc r.wa r.wn r.wc d.P d.W hN.p hN.w HN.out.p HN.out.w _ (HR.out.below hq).p (HR.out.below hq).g).mono fun e w' g => by obtain ⟨a1, c1, a2, c2, h1, h2, h3, h4⟩ := g; exact ⟨_, h1, a1, c1, a2, c2, rfl, h2, h3, h4⟩) (by have e4 := n4; have f4 := n4.eval; unfold At at e4; simp [go_sem, e4]) ?_)
        intro v w' a' hR' hI' n5' hk
        obtain ⟨p1, p2, p3, p4, rfl, h1, h2, hb⟩ := hR'
        refine ⟨fun _ => (And.intro (heap_lft hS.1 hb) (heap_lft hS.2 hb)), ?_⟩
        replace n4 := hk _ _ n4 rfl
        replace n8 := hk _ _ n8 rfl
        replace n6 := hk _ _ n6 rfl
        replace n12 := hk _ _ n12 rfl
        replace n16 := hk _ _ n16 rfl
        replace n14 := hk _ _ n14 rfl
        have n5 := n5'
        replace hI := hI'
        clear hk hI' n5'
        obtain ⟨act9, rfl⟩ : ∃ x, x = a' := ⟨_, rfl⟩
        have hT1 := (hT.below hb).setP p1 p2 p3 p4 (h1.base hq.size) (h2.base hq.size)
        have hS1 := (And.intro (heap_lft hS.1 hb) (heap_lft hS.2 hb))
        have hq1 := below_thn hq hb
        refine RestF.same (d' := [0, 1, 4, 5, 8, 9, 12, 13, 3, 11, 2]) ?_ (by kernel_rfl)
        rw [← hR]
        exact st1mn p1 p2 p3 p4 bm bn _ _ hI n5 n8 n6 n12 n16 n14 hT1 hS1 hq1
      · have hn1 := below_new wo (.cells #[] 47)
        have hT1 := hT.newS hq.size
        have hS1 : (wo.alloc (.cells #[] 47)).heap[w.heap.size]? = some (rollB r) ∧ (wo.alloc (.cells #[] 47)).heap[w.heap.size + 1]? = some ZB := (And.intro (heap_lft hS.1 hn1) (heap_lft hS.2 hn1))
        have hq1 := below_thn hq hn1
        obtain ⟨nw, hwe⟩ : ∃ y, wo.alloc (.cells #[] 47) = y := ⟨_, rfl⟩
        rw [hwe] at hn1 hT1 hS1 hq1
        refine _root_.id (op_value (k := 7) (d := 10) (v := .slice (some ⟨wo.heap.size, 0, none⟩) 0 0) hI rfl rfl (by kernel_rfl) (Nat.lt_of_le_of_lt (by decide) hsz) (wanted_free rfl) (by simp [go_sem]; try rfl) (fun a' hI' n10' hk => ⟨fun _ => by rw [hwe]; exact hS1, ?_⟩))
        replace n4 := hk _ _ n4 rfl
        replace n8 := hk _ _ n8 rfl
        replace n6 := hk _ _ n6 rfl
        replace n12 := hk _ _ n12 rfl
        replace n16 := hk _ _ n16 rfl
        replace n14 := hk _ _ n14 rfl
        have n10 := n10'
        replace hI := hI'
        clear hk hI' n10'
        obtain ⟨act9, rfl⟩ : ∃ x, x = a' := ⟨_, rfl⟩
        rw [hwe]
        refine RestF.same (d' := [0, 1, 4, 5, 8, 9, 12, 13, 3, 7, 11]) ?_ (by kernel_rfl)
        rw [← hR]
        exact st0msn bm wo.heap.size bn _ _ hI n4 n8 n6 n12 n10 n16 n14 hT1 hS1 hq1
    have st0sn : ∀ (bs : Nat) (bn : Nat) (ac : Act) (wo : World), Kept (List.range' 3 16) a0 ac → At ac 4 (.agg #[.slice r.pa r.pn r.pc, .slice r.wa r.wn r.wc]) → At ac 8 (.slice r.ma r.mn r.mc) → At ac 12 (.slice r.sa r.sn r.sc) → At ac 10 (.slice (some ⟨bs, 0, none⟩) 0 0) → At ac 16 (.slice r.na r.nn r.nc) → At ac 14 (.slice (some ⟨bn, 0, none⟩) 0 0) → TwSt W.heap.size wo r d none none (some (some ⟨bs, 0, none⟩, 0, 0)) (some (some ⟨bn, 0, none⟩, 0, 0)) → (wo.heap[w.heap.size]? = some (rollB r) ∧ wo.heap[w.heap.size + 1]? = some ZB) → Below W.heap.size W wo → R 7 [0, 1, 4, 5, 8, 9, 12, 13, 7, 11] ac wo := by
      intro bs bn ac wo hI n4 n8 n12 n10 n16 n14 hT hS hq
      rw [hR]
      refine restF_split [2, 3] (by kernel_rfl) rfl (fun i9 hi9 => ?_)
      have hi9' : i9 = 2 ∨ i9 = 3 := by simpa using hi9
      clear hi9
      rcases hi9' with rfl | rfl
      · refine _root_.id (op_call (k := 2) (d := 5) (R := fun v w' => ∃ p1 p2 p3 p4, v = .agg #[.slice p1 r.pn p2, .slice p3 r.wn p4] ∧ OwnNums w' wo.heap.size 49 4 p1 r.pn p2 d.P ∧ OwnNums w' wo.heap.size 53 5 p3 r.wn p4 d.W ∧ Below wo.heap.size wo w') hI rfl rfl (by kernel_rfl) (Nat.lt_of_le_of_lt (by decide) hsz) (wanted_free rfl) ((twin_any r.pa r.pn r.pc r.wa r.wn r.wc d.P d.W hN.p hN.w HN.out.p HN.out.w _ (HR.out.below hq).p (HR.out.below hq).g).mono fun e w' g => by obtain ⟨a1, c1, a2, c2, h1, h2, h3, h4⟩ := g; exact ⟨_, h1, a1, c1, a2, c2, rfl, h2, h3, h4⟩) (by have e4 := n4; have f4 := n4.eval; unfold At at e4; simp [go_sem, e4]) ?_)
        intro v w' a' hR' hI' n5' hk
        obtain ⟨p1, p2, p3, p4, rfl, h1, h2, hb⟩ := hR'
        refine ⟨fun _ => (And.intro (heap_lft hS.1 hb) (heap_lft hS.2 hb)), ?_⟩
        replace n4 := hk _ _ n4 rfl
        replace n8 := hk _ _ n8 rfl
        replace n12 := hk _ _ n12 rfl
        replace n10 := hk _ _ n10 rfl
        replace n16 := hk _ _ n16 rfl
        replace n14 := hk _ _ n14 rfl
        have n5 := n5'
        replace hI := hI'
        clear hk hI' n5'
        obtain ⟨act9, rfl⟩ : ∃ x, x = a' := ⟨_, rfl⟩
        have hT1 := (hT.below hb).setP p1 p2 p3 p4 (h1.base hq.size) (h2.base hq.size)
        have hS1 := (And.intro (heap_lft hS.1 hb) (heap_lft hS.2 hb))
        have hq1 := below_thn hq hb
        refine RestF.same (d' := [0, 1, 4, 5, 8, 9, 12, 13, 7, 11, 2]) ?_ (by kernel_rfl)
        rw [← hR]
        exact st1sn p1 p2 p3 p4 bs bn _ _ hI n5 n8 n12 n10 n16 n14 hT1 hS1 hq1
      · have hn1 := below_new wo (.cells #[] 3)
        have hT1 := hT.newM hq.size
        have hS1 : (wo.alloc (.cells #[] 3)).heap[w.heap.size]? = some (rollB r) ∧ (wo.alloc (.cells #[] 3)).heap[w.heap.size + 1]? = some ZB := (And.intro (heap_lft hS.1 hn1) (heap_lft hS.2 hn1))
        have hq1 := below_thn hq hn1
        obtain ⟨nw, hwe⟩ : ∃ y, wo.alloc (.cells #[] 3) = y := ⟨_, rfl⟩
        rw [hwe] at hn1 hT1 hS1 hq1
        refine _root_.id (op_value (k := 3) (d := 6) (v := .slice (some ⟨wo.heap.size, 0, none⟩) 0 0) hI rfl rfl (by kernel_rfl) (Nat.lt_of_le_of_lt (by decide) hsz) (wanted_free rfl) (by simp [go_sem]; try rfl) (fun a' hI' n6' hk => ⟨fun _ => by rw [hwe]; exact hS1, ?_⟩))
        replace n4 := hk _ _ n4 rfl
        replace n8 := hk _ _ n8 rfl
        replace n12 := hk _ _ n12 rfl
        replace n10 := hk _ _ n10 rfl
        replace n16 := hk _ _ n16 rfl
        replace n14 := hk _ _ n14 rfl
        have n6 := n6'
        replace hI := hI'
        clear hk hI' n6'
        obtain ⟨act9, rfl⟩ : ∃ x, x = a' := ⟨_, rfl⟩
        rw [hwe]
        refine RestF.same (d' := [0, 1, 4, 5, 8, 9, 12, 13, 3, 7, 11]) ?_ (by kernel_rfl)
        rw [← hR]
        exact st0msn wo.heap.size bs bn _ _ hI n4 n8 n6 n12 n10 n16 n14 hT1 hS1 hq1
    have st1m : ∀ (p1 : Option Addr) (p2 : Nat) (p3 : Option Addr) (p4 : Nat) (bm : Nat) (ac : Act) (wo : World), Kept (List.range' 3 16) a0 ac → At ac 5 (.agg #[.slice p1 r.pn p2, .slice p3 r.wn p4]) → At ac 8 (.slice r.ma r.mn r.mc) → At ac 6 (.slice (some ⟨bm, 0, none⟩) 0 0) → At ac 12 (.slice r.sa r.sn r.sc) → At ac 16 (.slice r.na r.nn r.nc) → TwSt W.heap.size wo r d (some (p1, p2, p3, p4)) (some (some ⟨bm, 0, none⟩, 0, 0)) none none → (wo.heap[w.heap.size]? = some (rollB r) ∧ wo.heap[w.heap.size + 1]? = some ZB) → Below W.heap.size W wo → R 7 [0, 1, 4, 5, 8, 9, 12, 13, 3, 2] ac wo := by
      intro p1 p2 p3 p4 bm ac wo hI n5 n8 n6 n12 n16 hT hS hq
      rw [hR]
      refine restF_split [6, 7, 11] (by kernel_rfl) rfl (fun i9 hi9 => ?_)
      have hi9' : i9 = 6 ∨ i9 = 7 ∨ i9 = 11 := by simpa using hi9
      clear hi9
      rcases hi9' with rfl | rfl | rfl
      · obtain ⟨ym, cm, nw, hr, hT1, hb1⟩ := hT.appM (by rw [Nat.mul_one]; exact (HR.out.below hq).m) HN.out.m (by have := hN.m; omega) hq.size 26
        have hsz2 := HSZ.out
        have hS1 : nw.heap[w.heap.size]? = some (rollB r) ∧ nw.heap[w.heap.size + 1]? = some ZB := ⟨(hb1.block _ (by omega)).trans hS.1, (hb1.block _ (by omega)).trans hS.2⟩
        have hq1 := hq.trans hb1
        refine _root_.id (op_value (k := 6) (d := 9) (v := .slice ym r.mn cm) hI rfl rfl (by kernel_rfl) (Nat.lt_of_le_of_lt (by decide) hsz) (wanted_free rfl) (exec_append (.tmp 6) (.tmp 8) 26 26 rfl n6.eval n8.eval (hr)) (fun a' hI' n9' hk => ⟨fun _ => hS1, ?_⟩))
        replace n5 := hk _ _ n5 rfl
        replace n8 := hk _ _ n8 rfl
        replace n6 := hk _ _ n6 rfl
        replace n12 := hk _ _ n12 rfl
        replace n16 := hk _ _ n16 rfl
        have n9 := n9'
        replace hI := hI'
        clear hk hI' n9'
        obtain ⟨act9, rfl⟩ : ∃ x, x = a' := ⟨_, rfl⟩
        refine RestF.same (d' := [0, 1, 4, 5, 8, 9, 12, 13, 3, 2, 6]) ?_ (by kernel_rfl)
        rw [← hR]
        exact st2m p1 p2 p3 p4 ym cm _ _ hI n5 n9 n12 n16 hT1 hS1 hq1
      · have hn1 := below_new wo (.cells #[] 47)
        have hT1 := hT.newS hq.size
        have hS1 : (wo.alloc (.cells #[] 47)).heap[w.heap.size]? = some (rollB r) ∧ (wo.alloc (.cells #[] 47)).heap[w.heap.size + 1]? = some ZB := (And.intro (heap_lft hS.1 hn1) (heap_lft hS.2 hn1))
        have hq1 := below_thn hq hn1
        obtain ⟨nw, hwe⟩ : ∃ y, wo.alloc (.cells #[] 47) = y := ⟨_, rfl⟩
        rw [hwe] at hn1 hT1 hS1 hq1
        refine _root_.id (op_value (k := 7) (d := 10) (v := .slice (some ⟨wo.heap.size, 0, none⟩) 0 0) hI rfl rfl (by kernel_rfl) (Nat.lt_of_le_of_lt (by decide) hsz) (wanted_free rfl) (by simp [go_sem]; try rfl) (fun a' hI' n10' hk => ⟨fun _ => by rw [hwe]; exact hS1, ?_⟩))
        replace n5 := hk _ _ n5 rfl
        replace n8 := hk _ _ n8 rfl
        replace n6 := hk _ _ n6 rfl
        replace n12 := hk _ _ n12 rfl
        replace n16 := hk _ _ n16 rfl
        have n10 := n10'
        replace hI := hI'
        clear hk hI' n10'
        obtain ⟨act9, rfl⟩ : ∃ x, x = a' := ⟨_, rfl⟩
        rw [hwe]
        refine RestF.same (d' := [0, 1, 4, 5, 8, 9, 12, 13, 3, 7, 2]) ?_ (by kernel_rfl)
        rw [← hR]
        exact st1ms p1 p2 p3 p4 bm wo.heap.size _ _ hI n5 n8 n6 n12 n10 n16 hT1 hS1 hq1
      · have hn1 := below_new wo (.cells #[] 34)
        have hT1 := hT.newN hq.size
        have hS1 : (wo.alloc (.cells #[] 34)).heap[w.heap.size]? = some (rollB r) ∧ (wo.alloc (.cells #[] 34)).heap[w.heap.size + 1]? = some ZB := (And.intro (heap_lft hS.1 hn1) (heap_lft hS.2 hn1))
        have hq1 := below_thn hq hn1
        obtain ⟨nw, hwe⟩ : ∃ y, wo.alloc (.cells #[] 34) = y := ⟨_, rfl⟩
        rw [hwe] at hn1 hT1 hS1 hq1
        refine _root_.id (op_value (k := 11) (d := 14) (v := .slice (some ⟨wo.heap.size, 0, none⟩) 0 0) hI rfl rfl (by kernel_rfl) (Nat.lt_of_le_of_lt (by decide) hsz) (wanted_free rfl) (by simp [go_sem]; try rfl) (fun a' hI' n14' hk => ⟨fun _ => by rw [hwe]; exact hS1, ?_⟩))
        replace n5 := hk _ _ n5 rfl
        replace n8 := hk _ _ n8 rfl
        replace n6 := hk _ _ n6 rfl
        replace n12 := hk _ _ n12 rfl
        replace n16 := hk _ _ n16 rfl
        have n14 := n14'
        replace hI := hI'
        clear hk hI' n14'
        obtain ⟨act9, rfl⟩ : ∃ x, x = a' := ⟨_, rfl⟩
        rw [hwe]
        refine RestF.same (d' := [0, 1, 4, 5, 8, 9, 12, 13, 3, 11, 2]) ?_ (by kernel_rfl)
        rw [← hR]
        exact st1mn p1 p2 p3 p4 bm wo.heap.size _ _ hI n5 n8 n6 n12 n16 n14 hT1 hS1 hq1
    have st1s : ∀ (p1 : Option Addr) (p2 : Nat) (p3 : Option Addr) (p4 : Nat) (bs : Nat) (ac : Act) (wo : World), Kept (List.range' 3 16) a0 ac → At ac 5 (.agg #[.slice p1 r.pn p2, .slice p3 r.wn p4]) → At ac 8 (.slice r.ma r.mn r.mc) → At ac 12 (.slice r.sa r.sn r.sc) → At ac 10 (.slice (some ⟨bs, 0, none⟩) 0 0) → At ac 16 (.slice r.na r.nn r.nc) → TwSt W.heap.size wo r d (some (p1, p2, p3, p4)) none (some (some ⟨bs, 0, none⟩, 0, 0)) none → (wo.heap[w.heap.size]? = some (rollB r) ∧ wo.heap[w.heap.size + 1]? = some ZB) → Below W.heap.size W wo → R 7 [0, 1, 4, 5, 8, 9, 12, 13, 7, 2] ac wo := by
      intro p1 p2 p3 p4 bs ac wo hI n5 n8 n12 n10 n16 hT hS hq
      rw [hR]
      refine restF_split [3, 11] (by kernel_rfl) rfl (fun i9 hi9 => ?_)
      have hi9' : i9 = 3 ∨ i9 = 11 := by simpa using hi9
      clear hi9
      rcases hi9' with rfl | rfl
      · have hn1 := below_new wo (.cells #[] 3)
        have hT1 := hT.newM hq.size
        have hS1 : (wo.alloc (.cells #[] 3)).heap[w.heap.size]? = some (rollB r) ∧ (wo.alloc (.cells #[] 3)).heap[w.heap.size + 1]? = some ZB := (And.intro (heap_lft hS.1 hn1) (heap_lft hS.2 hn1))
        have hq1 := below_thn hq hn1
        obtain ⟨nw, hwe⟩ : ∃ y, wo.alloc (.cells #[] 3) = y := ⟨_, rfl⟩
        rw [hwe] at hn1 hT1 hS1 hq1
        refine _root_.id (op_value (k := 3) (d := 6) (v := .slice (some ⟨wo.heap.size, 0, none⟩) 0 0) hI rfl rfl (by kernel_rfl) (Nat.lt_of_le_of_lt (by decide) hsz) (wanted_free rfl) (by simp [go_sem]; try rfl) (fun a' hI' n6' hk => ⟨fun _ => by rw [hwe]; exact hS1, ?_⟩))
        replace n5 := hk _ _ n5 rfl
        replace n8 := hk _ _ n8 rfl
        replace n12 := hk _ _ n12 rfl
        replace n10 := hk _ _ n10 rfl
        replace n16 := hk _ _ n16 rfl
        have n6 := n6'
        replace hI := hI'
        clear hk hI' n6'
        obtain ⟨act9, rfl⟩ : ∃ x, x = a' := ⟨_, rfl⟩
        rw [hwe]
        refine RestF.same (d' := [0, 1, 4, 5, 8, 9, 12, 13, 3, 7, 2]) ?_ (by kernel_rfl)
        rw [← hR]
        exact st1ms p1 p2 p3 p4 wo.heap.size bs _ _ hI n5 n8 n6 n12 n10 n16 hT1 hS1 hq1
      · have hn1 := below_new wo (.cells #[] 34)
        have hT1 := hT.newN hq.size
        have hS1 : (wo.alloc (.cells #[] 34)).heap[w.heap.size]? = some (rollB r) ∧ (wo.alloc (.cells #[] 34)).heap[w.heap.size + 1]? = some ZB := (And.intro (heap_lft hS.1 hn1) (heap_lft hS.2 hn1))
        have hq1 := below_thn hq hn1
        obtain ⟨nw, hwe⟩ : ∃ y, wo.alloc (.cells #[] 34) = y := ⟨_, rfl⟩
        rw [hwe] at hn1 hT1 hS1 hq1
        refine _root_.id (op_value (k := 11) (d := 14) (v := .slice (some ⟨wo.heap.size, 0, none⟩) 0 0) hI rfl rfl (by kernel_rfl) (Nat.lt_of_le_of_lt (by decide) hsz) (wanted_free rfl) (by simp [go_sem]; try rfl) (fun a' hI' n14' hk => ⟨fun _ => by rw [hwe]; exact hS1, ?_⟩))
        replace n5 := hk _ _ n5 rfl
        replace n8 := hk _ _ n8 rfl
        replace n12 := hk _ _ n12 rfl
        replace n10 := hk _ _ n10 rfl
        replace n16 := hk _ _ n16 rfl
        have n14 := n14'
        replace hI := hI'
        clear hk hI' n14'
        obtain ⟨act9, rfl⟩ : ∃ x, x = a' := ⟨_, rfl⟩
        rw [hwe]
        refine RestF.same (d' := [0, 1, 4, 5, 8, 9, 12, 13, 7, 11, 2]) ?_ (by kernel_rfl)
        rw [← hR]
        exact st1sn p1 p2 p3 p4 bs wo.heap.size _ _ hI n5 n8 n12 n10 n16 n14 hT1 hS1 hq1
    have st1n : ∀ (p1 : Option Addr) (p2 : Nat) (p3 : Option Addr) (p4 : Nat) (bn : Nat) (ac : Act) (wo : World), Kept (List.range' 3 16) a0 ac → At ac 5 (.agg #[.slice p1 r.pn p2, .slice p3 r.wn p4]) → At ac 8 (.slice r.ma r.mn r.mc) → At ac 12 (.slice r.sa r.sn r.sc) → At ac 16 (.slice r.na r.nn r.nc) → At ac 14 (.slice (some ⟨bn, 0, none⟩) 0 0) → TwSt W.heap.size wo r d (some (p1, p2, p3, p4)) none none (some (some ⟨bn, 0, none⟩, 0, 0)) → (wo.heap[w.heap.size]? = some (rollB r) ∧ wo.heap[w.heap.size + 1]? = some ZB) → Below W.heap.size W wo → R 7 [0, 1, 4, 5, 8, 9, 12, 13, 11, 2] ac wo := by
      intro p1 p2 p3 p4 bn ac wo hI n5 n8 n12 n16 n14 hT hS hq
      rw [hR]
      refine restF_split [3, 7] (by kernel_rfl) rfl (fun i9 hi9 => ?_)
      have hi9' : i9 = 3 ∨ i9 = 7 := by simpa using hi9
      clear hi9
      rcases hi9' with rfl | rfl
      · have hn1 := below_new wo (.cells #[] 3)
        have hT1 := hT.newM hq.size
        have hS1 : (wo.alloc (.cells #[] 3)).heap[w.heap.size]? = some (rollB r) ∧ (wo.alloc (.cells #[] 3)).heap[w.heap.size + 1]? = some ZB := (And.intro (heap_lft hS.1 hn1) (heap_lft hS.2 hn1))
        have hq1 := below_thn hq hn1
        obtain ⟨nw, hwe⟩ : ∃ y, wo.alloc (.cells #[] 3) = y := ⟨_, rfl⟩
        rw [hwe] at hn1 hT1 hS1 hq1
        refine _root_.id (op_value (k := 3) (d := 6) (v := .slice (some ⟨wo.heap.size, 0, none⟩) 0 0) hI rfl rfl (by kernel_rfl) (Nat.lt_of_le_of_lt (by decide) hsz) (wanted_free rfl) (by simp [go_sem]; try rfl) (fun a' hI' n6' hk => ⟨fun _ => by rw [hwe]; exact hS1, ?_⟩))
        replace n5 := hk _ _ n5 rfl
        replace n8 := hk _ _ n8 rfl
        replace n12 := hk _ _ n12 rfl
        replace n16 := hk _ _ n16 rfl
        replace n14 := hk _ _ n14 rfl
        have n6 := n6'
        replace hI := hI'
        clear hk hI' n6'
        obtain ⟨act9, rfl⟩ : ∃ x, x = a' := ⟨_, rfl⟩
        rw [hwe]
        refine RestF.same (d' := [0, 1, 4, 5, 8, 9, 12, 13, 3, 11, 2]) ?_ (by kernel_rfl)
        rw [← hR]
        exact st1mn p1 p2 p3 p4 wo.heap.size bn _ _ hI n5 n8 n6 n12 n16 n14 hT1 hS1 hq1
      · have hn1 := below_new wo (.cells #[] 47)
        have hT1 := hT.newS hq.size
        have hS1 : (wo.alloc (.cells #[] 47)).heap[w.heap.size]? = some (rollB r) ∧ (wo.alloc (.cells #[] 47)).heap[w.heap.size + 1]? = some ZB := (And.intro (heap_lft hS.1 hn1) (heap_lft hS.2 hn1))
        have hq1 := below_thn hq hn1
        obtain ⟨nw, hwe⟩ : ∃ y, wo.alloc (.cells #[] 47) = y := ⟨_, rfl⟩
        rw [hwe] at hn1 hT1 hS1 hq1
        refine _root_.id (op_value (k := 7) (d := 10) (v := .slice (some ⟨wo.heap.size, 0, none⟩) 0 0) hI rfl rfl (by kernel_rfl) (Nat.lt_of_le_of_lt (by decide) hsz) (wanted_free rfl) (by simp [go_sem]; try rfl) (fun a' hI' n10' hk => ⟨fun _ => by rw [hwe]; exact hS1, ?_⟩))
        replace n5 := hk _ _ n5 rfl
        replace n8 := hk _ _ n8 rfl
        replace n12 := hk _ _ n12 rfl
        replace n16 := hk _ _ n16 rfl
        replace n14 := hk _ _ n14 rfl
        have n10 := n10'
        replace hI := hI'
        clear hk hI' n10'
        obtain ⟨act9, rfl⟩ : ∃ x, x = a' := ⟨_, rfl⟩
        rw [hwe]
        refine RestF.same (d' := [0, 1, 4, 5, 8, 9, 12, 13, 7, 11, 2]) ?_ (by kernel_rfl)
        rw [← hR]
        exact st1sn p1 p2 p3 p4 wo.heap.size bn _ _ hI n5 n8 n12 n10 n16 n14 hT1 hS1 hq1
    have st0m : ∀ (bm : Nat) (ac : Act) (wo : World), Kept (List.range' 3 16) a0 ac → At ac 4 (.agg #[.slice r.pa r.pn r.pc, .slice r.wa r.wn r.wc]) → At ac 8 (.slice r.ma r.mn r.mc) → At ac 6 (.slice (some ⟨bm, 0, none⟩) 0 0) → At ac 12 (.slice r.sa r.sn r.sc) → At ac 16 (.slice r.na r.nn r.nc) → TwSt W.heap.size wo r d none (some (some ⟨bm, 0, none⟩, 0, 0)) none none → (wo.heap[w.heap.size]? = some (rollB r) ∧ wo.heap[w.heap.size + 1]? = some ZB) → Below W.heap.size W wo → R 8 [0, 1, 4, 5, 8, 9, 12, 13, 3] ac wo := by
      intro bm ac wo hI n4 n8 n6 n12 n16 hT hS hq
      rw [hR]
      refine restF_split [2, 7, 11] (by kernel_rfl) rfl (fun i9 hi9 => ?_)
      have hi9' : i9 = 2 ∨ i9 = 7 ∨ i9 = 11 := by simpa using hi9
      clear hi9
      rcases hi9' with rfl | rfl | rfl
      · refine _root_.id (op_call (k := 2) (d := 5) (R := fun v w' => ∃ p1 p2 p3 p4, v = .agg #[.slice p1 r.pn p2, .slice p3 r.wn p4] ∧ OwnNums w' wo.heap.size 49 4 p1 r.pn p2 d.P ∧ OwnNums w' wo.heap.size 53 5 p3 r.wn p4 d.W ∧ Below wo.heap.size wo w') hI rfl rfl (by kernel_rfl) (Nat.lt_of_le_of_lt (by decide) hsz) (wanted_free rfl) ((twin_any r.pa r.pn r.pc r.wa r.wn r.wc d.P d.W hN.p hN.w HN.out.p HN.out.w _ (HR.out.below hq).p (HR.out.below hq).g).mono fun e w' g => by obtain ⟨a1, c1, a2, c2, h1, h2, h3, h4⟩ := g; exact ⟨_, h1, a1, c1, a2, c2, rfl, h2, h3, h4⟩) (by have e4 := n4; have f4 := n4.eval; unfold At at e4; simp [go_sem, e4]) ?_)
        intro v w' a' hR' hI' n5' hk
        obtain ⟨p1, p2, p3, p4, rfl, h1, h2, hb⟩ := hR'
        refine ⟨fun _ => (And.intro (heap_lft hS.1 hb) (heap_lft hS.2 hb)), ?_⟩
        replace n4 := hk _ _ n4 rfl
        replace n8 := hk _ _ n8 rfl
        replace n6 := hk _ _ n6 rfl
        replace n12 := hk _ _ n12 rfl
        replace n16 := hk _ _ n16 rfl
        have n5 := n5'
        replace hI := hI'
        clear hk hI' n5'
        obtain ⟨act9, rfl⟩ : ∃ x, x = a' := ⟨_, rfl⟩
        have hT1 := (hT.below hb).setP p1 p2 p3 p4 (h1.base hq.size) (h2.base hq.size)
        have hS1 := (And.intro (heap_lft hS.1 hb) (heap_lft hS.2 hb))
        have hq1 := below_thn hq hb
        refine RestF.same (d' := [0, 1, 4, 5, 8, 9, 12, 13, 3, 2]) ?_ (by kernel_rfl)
        rw [← hR]
        exact st1m p1 p2 p3 p4 bm _ _ hI n5 n8 n6 n12 n16 hT1 hS1 hq1
      · have hn1 := below_new wo (.cells #[] 47)
        have hT1 := hT.newS hq.size
        have hS1 : (wo.alloc (.cells #[] 47)).heap[w.heap.size]? = some (rollB r) ∧ (wo.alloc (.cells #[] 47)).heap[w.heap.size + 1]? = some ZB := (And.intro (heap_lft hS.1 hn1) (heap_lft hS.2 hn1))
        have hq1 := below_thn hq hn1
        obtain ⟨nw, hwe⟩ : ∃ y, wo.alloc (.cells #[] 47) = y := ⟨_, rfl⟩
        rw [hwe] at hn1 hT1 hS1 hq1
        refine _root_.id (op_value (k := 7) (d := 10) (v := .slice (some ⟨wo.heap.size, 0, none⟩) 0 0) hI rfl rfl (by kernel_rfl) (Nat.lt_of_le_of_lt (by decide) hsz) (wanted_free rfl) (by simp [go_sem]; try rfl) (fun a' hI' n10' hk => ⟨fun _ => by rw [hwe]; exact hS1, ?_⟩))
        replace n4 := hk _ _ n4 rfl
        replace n8 := hk _ _ n8 rfl
        replace n6 := hk _ _ n6 rfl
        replace n12 := hk _ _ n12 rfl
        replace n16 := hk _ _ n16 rfl
        have n10 := n10'
        replace hI := hI'
        clear hk hI' n10'
        obtain ⟨act9, rfl⟩ : ∃ x, x = a' := ⟨_, rfl⟩
        rw [hwe]
        refine RestF.same (d' := [0, 1, 4, 5, 8, 9, 12, 13, 3, 7]) ?_ (by kernel_rfl)
        rw [← hR]
        exact st0ms bm wo.heap.size _ _ hI n4 n8 n6 n12 n10 n16 hT1 hS1 hq1
      · have hn1 := below_new wo (.cells #[] 34)
        have hT1 := hT.newN hq.size
        have hS1 : (wo.alloc (.cells #[] 34)).heap[w.heap.size]? = some (rollB r) ∧ (wo.alloc (.cells #[] 34)).heap[w.heap.size + 1]? = some ZB := (And.intro (heap_lft hS.1 hn1) (heap_lft hS.2 hn1))
        have hq1 := below_thn hq hn1
        obtain ⟨nw, hwe⟩ : ∃ y, wo.alloc (.cells #[] 34) = y := ⟨_, rfl⟩
        rw [hwe] at hn1 hT1 hS1 hq1
        refine _root_.id (op_value (k := 11) (d := 14) (v := .slice (some ⟨wo.heap.size, 0, none⟩) 0 0) hI rfl rfl (by kernel_rfl) (Nat.lt_of_le_of_lt (by decide) hsz) (wanted_free rfl) (by simp [go_sem]; try rfl) (fun a' hI' n14' hk => ⟨fun _ => by rw [hwe]; exact hS1, ?_⟩))
        replace n4 := hk _ _ n4 rfl
        replace n8 := hk _ _ n8 rfl
        replace n6 := hk _ _ n6 rfl
        replace n12 := hk _ _ n12 rfl
        replace n16 := hk _ _ n16 rfl
        have n14 := n14'
        replace hI := hI'
        clear hk hI' n14'
        obtain ⟨act9, rfl⟩ : ∃ x, x = a' := ⟨_, rfl⟩
        rw [hwe]
        refine RestF.same (d' := [0, 1, 4, 5, 8, 9, 12, 13, 3, 11]) ?_ (by kernel_rfl)
        rw [← hR]
        exact st0mn bm wo.heap.size _ _ hI n4 n8 n6 n12 n16 n14 hT1 hS1 hq1
    have st0s : ∀ (bs : Nat) (ac : Act) (wo : World), Kept (List.range' 3 16) a0 ac → At ac 4 (.agg #[.slice r.pa r.pn r.pc, .slice r.wa r.wn r.wc]) → At ac 8 (.slice r.ma r.mn r.mc) → At ac 12 (.slice r.sa r.sn r.sc) → At ac 10 (.slice (some ⟨bs, 0, none⟩) 0 0) → At ac 16 (.slice r.na r.nn r.nc) → TwSt W.heap.size wo r d none none (some (some ⟨bs, 0, none⟩, 0, 0)) none → (wo.heap[w.heap.size]? = some (rollB r) ∧ wo.heap[w.heap.size + 1]? = some ZB) → Below W.heap.size W wo → R 8 [0, 1, 4, 5, 8, 9, 12, 13, 7] ac wo := by
      intro bs ac wo hI n4 n8 n12 n10 n16 hT hS hq
      rw [hR]
      refine restF_split [2, 3, 11] (by kernel_rfl) rfl (fun i9 hi9 => ?_)
      have hi9' : i9 = 2 ∨ i9 = 3 ∨ i9 = 11 := by simpa using hi9
      clear hi9
      rcases hi9' with rfl | rfl | rfl
      · refine _root_.id (op_call (k := 2) (d := 5) (R := fun v w' => ∃ p1 p2 p3 p4, v = .agg #[.slice p1 r.pn p2, .slice p3 r.wn p4] ∧ OwnNums w' wo.heap.size 49 4 p1 r.pn p2 d.P ∧ OwnNums w' wo.heap.size 53 5 p3 r.wn p4 d.W ∧ Below wo.heap.size wo w') hI rfl rfl (by kernel_rfl) (Nat.lt_of_le_of_lt (by decide) hsz) (wanted_free rfl) ((twin_any r.pa r.pn r.pc r.wa r.wn r.wc d.P d.W hN.p hN.w HN.out.p HN.out.w _ (HR.out.below hq).p (HR.out.below hq).g).mono fun e w' g => by obtain ⟨a1, c1, a2, c2, h1, h2, h3, h4⟩ := g; exact ⟨_, h1, a1, c1, a2, c2, rfl, h2, h3, h4⟩) (by have e4 := n4; have f4 := n4.eval; unfold At at e4; simp [go_sem, e4]) ?_)
        intro v w' a' hR' hI' n5' hk
        obtain ⟨p1, p2, p3, p4, rfl, h1, h2, hb⟩ := hR'
        refine ⟨fun _ => (And.intro (heap_lft hS.1 hb) (heap_lft hS.2 hb)), ?_⟩
        replace n4 := hk _ _ n4 rfl
        replace n8 := hk _ _ n8 rfl
        replace n12 := hk _ _ n12 rfl
        replace n10 := hk _ _ n10 rfl
        replace n16 := hk _ _ n16 rfl
        have n5 := n5'
        replace hI := hI'
        clear hk hI' n5'
        obtain ⟨act9, rfl⟩ : ∃ x, x = a' := ⟨_, rfl⟩
        have hT1 := (hT.below hb).setP p1 p2 p3 p4 (h1.base hq.size) (h2.base hq.size)
        have hS1 := (And.intro (heap_lft hS.1 hb) (heap_lft hS.2 hb))
        have hq1 := below_thn hq hb
        refine RestF.same (d' := [0, 1, 4, 5, 8, 9, 12, 13, 7, 2]) ?_ (by kernel_rfl)
        rw [← hR]
        exact st1s p1 p2 p3 p4 bs _ _ hI n5 n8 n12 n10 n16 hT1 hS1 hq1
      · have hn1 := below_new wo (.cells #[] 3)
        have hT1 := hT.newM hq.size
        have hS1 : (wo.alloc (.cells #[] 3)).heap[w.heap.size]? = some (rollB r) ∧ (wo.alloc (.cells #[] 3)).heap[w.heap.size + 1]? = some ZB := (And.intro (heap_lft hS.1 hn1) (heap_lft hS.2 hn1))
        have hq1 := below_thn hq hn1
        obtain ⟨nw, hwe⟩ : ∃ y, wo.alloc (.cells #[] 3) = y := ⟨_, rfl⟩
        rw [hwe] at hn1 hT1 hS1 hq1
        refine _root_.id (op_value (k := 3) (d := 6) (v := .slice (some ⟨wo.heap.size, 0, none⟩) 0 0) hI rfl rfl (by kernel_rfl) (Nat.lt_of_le_of_lt (by decide) hsz) (wanted_free rfl) (by simp [go_sem]; try rfl) (fun a' hI' n6' hk => ⟨fun _ => by rw [hwe]; exact hS1, ?_⟩))
        replace n4 := hk _ _ n4 rfl
        replace n8 := hk _ _ n8 rfl
        replace n12 := hk _ _ n12 rfl
        replace n10 := hk _ _ n10 rfl
        replace n16 := hk _ _ n16 rfl
        have n6 := n6'
        replace hI := hI'
        clear hk hI' n6'
        obtain ⟨act9, rfl⟩ : ∃ x, x = a' := ⟨_, rfl⟩
        rw [hwe]
        refine RestF.same (d' := [0, 1, 4, 5, 8, 9, 12, 13, 3, 7]) ?_ (by kernel_rfl)
        rw [← hR]
        exact st0ms wo.heap.size bs _ _ hI n4 n8 n6 n12 n10 n16 hT1 hS1 hq1
      · have hn1 := below_new wo (.cells #[] 34)
        have hT1 := hT.newN hq.size
        have hS1 : (wo.alloc (.cells #[] 34)).heap[w.heap.size]? = some (rollB r) ∧ (wo.alloc (.cells #[] 34)).heap[w.heap.size + 1]? = some ZB := (And.intro (heap_lft hS.1 hn1) (heap_lft hS.2 hn1))
        have hq1 := below_thn hq hn1
        obtain ⟨nw, hwe⟩ : ∃ y, wo.alloc (.cells #[] 34) = y := ⟨_, rfl⟩
        rw [hwe] at hn1 hT1 hS1 hq1
        refine _root_.id (op_value (k := 11) (d := 14) (v := .slice (some ⟨wo.heap.size, 0, none⟩) 0 0) hI rfl rfl (by kernel_rfl) (Nat.lt_of_le_of_lt (by decide) hsz) (wanted_free rfl) (by simp [go_sem]; try rfl) (fun a' hI' n14' hk => ⟨fun _ => by rw [hwe]; exact hS1, ?_⟩))
        replace n4 := hk _ _ n4 rfl
        replace n8 := hk _ _ n8 rfl
        replace n12 := hk _ _ n12 rfl
        replace n10 := hk _ _ n10 rfl
        replace n16 := hk _ _ n16 rfl
        have n14 := n14'
        replace hI := hI'
        clear hk hI' n14'
        obtain ⟨act9, rfl⟩ : ∃ x, x = a' := ⟨_, rfl⟩
        rw [hwe]
        refine RestF.same (d' := [0, 1, 4, 5, 8, 9, 12, 13, 7, 11]) ?_ (by kernel_rfl)
        rw [← hR]
        exact st0sn bs wo.heap.size _ _ hI n4 n8 n12 n10 n16 n14 hT1 hS1 hq1
    have st0n : ∀ (bn : Nat) (ac : Act) (wo : World), Kept (List.range' 3 16) a0 ac → At ac 4 (.agg #[.slice r.pa r.pn r.pc, .slice r.wa r.wn r.wc]) → At ac 8 (.slice r.ma r.mn r.mc) → At ac 12 (.slice r.sa r.sn r.sc) → At ac 16 (.slice r.na r.nn r.nc) → At ac 14 (.slice (some ⟨bn, 0, none⟩) 0 0) → TwSt W.heap.size wo r d none none none (some (some ⟨bn, 0, none⟩, 0, 0)) → (wo.heap[w.heap.size]? = some (rollB r) ∧ wo.heap[w.heap.size + 1]? = some ZB) → Below W.heap.size W wo → R 8 [0, 1, 4, 5, 8, 9, 12, 13, 11] ac wo := by
      intro bn ac wo hI n4 n8 n12 n16 n14 hT hS hq
      rw [hR]
      refine restF_split [2, 3, 7] (by kernel_rfl) rfl (fun i9 hi9 => ?_)
      have hi9' : i9 = 2 ∨ i9 = 3 ∨ i9 = 7 := by simpa using hi9
      clear hi9
      rcases hi9' with rfl | rfl | rfl
      · refine _root_.id (op_call (k := 2) (d := 5) (R := fun v w' => ∃ p1 p2 p3 p4, v = .agg #[.slice p1 r.pn p2, .slice p3 r.wn p4] ∧ OwnNums w' wo.heap.size 49 4 p1 r.pn p2 d.P ∧ OwnNums w' wo.heap.size 53 5 p3 r.wn p4 d.W ∧ Below wo.heap.size wo w') hI rfl rfl (by kernel_rfl) (Nat.lt_of_le_of_lt (by decide) hsz) (wanted_free rfl) ((twin_any r.pa r.pn r.pc r.wa r.wn r.wc d.P d.W hN.p hN.w HN.out.p HN.out.w _ (HR.out.below hq).p (HR.out.below hq).g).mono fun e w' g => by obtain ⟨a1, c1, a2, c2, h1, h2, h3, h4⟩ := g; exact ⟨_, h1, a1, c1, a2, c2, rfl, h2, h3, h4⟩) (by have e4 := n4; have f4 := n4.eval; unfold At at e4; simp [go_sem, e4]) ?_)
        intro v w' a' hR' hI' n5' hk
        obtain ⟨p1, p2, p3, p4, rfl, h1, h2, hb⟩ := hR'
        refine ⟨fun _ => (And.intro (heap_lft hS.1 hb) (heap_lft hS.2 hb)), ?_⟩
        replace n4 := hk _ _ n4 rfl
        replace n8 := hk _ _ n8 rfl
        replace n12 := hk _ _ n12 rfl
        replace n16 := hk _ _ n16 rfl
        replace n14 := hk _ _ n14 rfl
        have n5 := n5'
        replace hI := hI'
        clear hk hI' n5'
        obtain ⟨act9, rfl⟩ : ∃ x, x = a' := ⟨_, rfl⟩
        have hT1 := (hT.below hb).setP p1 p2 p3 p4 (h1.base hq.size) (h2.base hq.size)
        have hS1 := (And.intro (heap_lft hS.1 hb) (heap_lft hS.2 hb))
        have hq1 := below_thn hq hb
        refine RestF.same (d' := [0, 1, 4, 5, 8, 9, 12, 13, 11, 2]) ?_ (by kernel_rfl)
        rw [← hR]
        exact st1n p1 p2 p3 p4 bn _ _ hI n5 n8 n12 n16 n14 hT1 hS1 hq1
      · have hn1 := below_new wo (.cells #[] 3)
        have hT1 := hT.newM hq.size
        have hS1 : (wo.alloc (.cells #[] 3)).heap[w.heap.size]? = some (rollB r) ∧ (wo.alloc (.cells #[] 3)).heap[w.heap.size + 1]? = some ZB := (And.intro (heap_lft hS.1 hn1) (heap_lft hS.2 hn1))
        have hq1 := below_thn hq hn1
        obtain ⟨nw, hwe⟩ : ∃ y, wo.alloc (.cells #[] 3) = y := ⟨_, rfl⟩
        rw [hwe] at hn1 hT1 hS1 hq1
        refine _root_.id (op_value (k := 3) (d := 6) (v := .slice (some ⟨wo.heap.size, 0, none⟩) 0 0) hI rfl rfl (by kernel_rfl) (Nat.lt_of_le_of_lt (by decide) hsz) (wanted_free rfl) (by simp [go_sem]; try rfl) (fun a' hI' n6' hk => ⟨fun _ => by rw [hwe]; exact hS1, ?_⟩))
        replace n4 := hk _ _ n4 rfl
        replace n8 := hk _ _ n8 rfl
        replace n12 := hk _ _ n12 rfl
        replace n16 := hk _ _ n16 rfl
        replace n14 := hk _ _ n14 rfl
        have n6 := n6'
        replace hI := hI'
        clear hk hI' n6'
        obtain ⟨act9, rfl⟩ : ∃ x, x = a' := ⟨_, rfl⟩
        rw [hwe]
        refine RestF.same (d' := [0, 1, 4, 5, 8, 9, 12, 13, 3, 11]) ?_ (by kernel_rfl)
        rw [← hR]
        exact st0mn wo.heap.size bn _ _ hI n4 n8 n6 n12 n16 n14 hT1 hS1 hq1
      · have hn1 := below_new wo (.cells #[] 47)
        have hT1 := hT.newS hq.size
        have hS1 : (wo.alloc (.cells #[] 47)).heap[w.heap.size]? = some (rollB r) ∧ (wo.alloc (.cells #[] 47)).heap[w.heap.size + 1]? = some ZB := (And.intro (heap_lft hS.1 hn1) (heap_lft hS.2 hn1))
        have hq1 := below_thn hq hn1
        obtain ⟨nw, hwe⟩ : ∃ y, wo.alloc (.cells #[] 47) = y := ⟨_, rfl⟩
        rw [hwe] at hn1 hT1 hS1 hq1
        refine _root_.id (op_value (k := 7) (d := 10) (v := .slice (some ⟨wo.heap.size, 0, none⟩) 0 0) hI rfl rfl (by kernel_rfl) (Nat.lt_of_le_of_lt (by decide) hsz) (wanted_free rfl) (by simp [go_sem]; try rfl) (fun a' hI' n10' hk => ⟨fun _ => by rw [hwe]; exact hS1, ?_⟩))
        replace n4 := hk _ _ n4 rfl
        replace n8 := hk _ _ n8 rfl
        replace n12 := hk _ _ n12 rfl
        replace n16 := hk _ _ n16 rfl
        replace n14 := hk _ _ n14 rfl
        have n10 := n10'
        replace hI := hI'
        clear hk hI' n10'
        obtain ⟨act9, rfl⟩ : ∃ x, x = a' := ⟨_, rfl⟩
        rw [hwe]
        refine RestF.same (d' := [0, 1, 4, 5, 8, 9, 12, 13, 7, 11]) ?_ (by kernel_rfl)
        rw [← hR]
        exact st0sn wo.heap.size bn _ _ hI n4 n8 n12 n10 n16 n14 hT1 hS1 hq1
    have st1 : ∀ (p1 : Option Addr) (p2 : Nat) (p3 : Option Addr) (p4 : Nat) (ac : Act) (wo : World), Kept (List.range' 3 16) a0 ac → At ac 5 (.agg #[.slice p1 r.pn p2, .slice p3 r.wn p4]) → At ac 8 (.slice r.ma r.mn r.mc) → At ac 12 (.slice r.sa r.sn r.sc) → At ac 16 (.slice r.na r.nn r.nc) → TwSt W.heap.size wo r d (some (p1, p2, p3, p4)) none none none → (wo.heap[w.heap.size]? = some (rollB r) ∧ wo.heap[w.heap.size + 1]? = some ZB) → Below W.heap.size W wo → R 8 [0, 1, 4, 5, 8, 9, 12, 13, 2] ac wo := by
      intro p1 p2 p3 p4 ac wo hI n5 n8 n12 n16 hT hS hq
      rw [hR]
      refine restF_split [3, 7, 11] (by kernel_rfl) rfl (fun i9 hi9 => ?_)
      have hi9' : i9 = 3 ∨ i9 = 7 ∨ i9 = 11 := by simpa using hi9
      clear hi9
      rcases hi9' with rfl | rfl | rfl
      · have hn1 := below_new wo (.cells #[] 3)
        have hT1 := hT.newM hq.size
        have hS1 : (wo.alloc (.cells #[] 3)).heap[w.heap.size]? = some (rollB r) ∧ (wo.alloc (.cells #[] 3)).heap[w.heap.size + 1]? = some ZB := (And.intro (heap_lft hS.1 hn1) (heap_lft hS.2 hn1))
        have hq1 := below_thn hq hn1
        obtain ⟨nw, hwe⟩ : ∃ y, wo.alloc (.cells #[] 3) = y := ⟨_, rfl⟩
        rw [hwe] at hn1 hT1 hS1 hq1
        refine _root_.id (op_value (k := 3) (d := 6) (v := .slice (some ⟨wo.heap.size, 0, none⟩) 0 0) hI rfl rfl (by kernel_rfl) (Nat.lt_of_le_of_lt (by decide) hsz) (wanted_free rfl) (by simp [go_sem]; try rfl) (fun a' hI' n6' hk => ⟨fun _ => by rw [hwe]; exact hS1, ?_⟩))
        replace n5 := hk _ _ n5 rfl
        replace n8 := hk _ _ n8 rfl
        replace n12 := hk _ _ n12 rfl
        replace n16 := hk _ _ n16 rfl
        have n6 := n6'
        replace hI := hI'
        clear hk hI' n6'
        obtain ⟨act9, rfl⟩ : ∃ x, x = a' := ⟨_, rfl⟩
        rw [hwe]
        refine RestF.same (d' := [0, 1, 4, 5, 8, 9, 12, 13, 3, 2]) ?_ (by kernel_rfl)
        rw [← hR]
        exact st1m p1 p2 p3 p4 wo.heap.size _ _ hI n5 n8 n6 n12 n16 hT1 hS1 hq1
      · have hn1 := below_new wo (.cells #[] 47)
        have hT1 := hT.newS hq.size
        have hS1 : (wo.alloc (.cells #[] 47)).heap[w.heap.size]? = some (rollB r) ∧ (wo.alloc (.cells #[] 47)).heap[w.heap.size + 1]? = some ZB := (And.intro (heap_lft hS.1 hn1) (heap_lft hS.2 hn1))
        have hq1 := below_thn hq hn1
        obtain ⟨nw, hwe⟩ : ∃ y, wo.alloc (.cells #[] 47) = y := ⟨_, rfl⟩
        rw [hwe] at hn1 hT1 hS1 hq1
        refine _root_.id (op_value (k := 7) (d := 10) (v := .slice (some ⟨wo.heap.size, 0, none⟩) 0 0) hI rfl rfl (by kernel_rfl) (Nat.lt_of_le_of_lt (by decide) hsz) (wanted_free rfl) (by simp [go_sem]; try rfl) (fun a' hI' n10' hk => ⟨fun _ => by rw [hwe]; exact hS1, ?_⟩))
        replace n5 := hk _ _ n5 rfl
        replace n8 := hk _ _ n8 rfl
        replace n12 := hk _ _ n12 rfl
        replace n16 := hk _ _ n16 rfl
        have n10 := n10'
        replace hI := hI'
        clear hk hI' n10'
        obtain ⟨act9, rfl⟩ : ∃ x, x = a' := ⟨_, rfl⟩
        rw [hwe]
        refine RestF.same (d' := [0, 1, 4, 5, 8, 9, 12, 13, 7, 2]) ?_ (by kernel_rfl)
        rw [← hR]
        exact st1s p1 p2 p3 p4 wo.heap.size _ _ hI n5 n8 n12 n10 n16 hT1 hS1 hq1
      · have hn1 := below_new wo (.cells #[] 34)
        have hT1 := hT.newN hq.size
        have hS1 : (wo.alloc (.cells #[] 34)).heap[w.heap.size]? = some (rollB r) ∧ (wo.alloc (.cells #[] 34)).heap[w.heap.size + 1]? = some ZB := (And.intro (heap_lft hS.1 hn1) (heap_lft hS.2 hn1))
        have hq1 := below_thn hq hn1
        obtain ⟨nw, hwe⟩ : ∃ y, wo.alloc (.cells #[] 34) = y := ⟨_, rfl⟩
        rw [hwe] at hn1 hT1 hS1 hq1
        refine _root_.id (op_value (k := 11) (d := 14) (v := .slice (some ⟨wo.heap.size, 0, none⟩) 0 0) hI rfl rfl (by kernel_rfl) (Nat.lt_of_le_of_lt (by decide) hsz) (wanted_free rfl) (by simp [go_sem]; try rfl) (fun a' hI' n14' hk => ⟨fun _ => by rw [hwe]; exact hS1, ?_⟩))
        replace n5 := hk _ _ n5 rfl
        replace n8 := hk _ _ n8 rfl
        replace n12 := hk _ _ n12 rfl
        replace n16 := hk _ _ n16 rfl
        have n14 := n14'
        replace hI := hI'
        clear hk hI' n14'
        obtain ⟨act9, rfl⟩ : ∃ x, x = a' := ⟨_, rfl⟩
        rw [hwe]
        refine RestF.same (d' := [0, 1, 4, 5, 8, 9, 12, 13, 11, 2]) ?_ (by kernel_rfl)
        rw [← hR]
        exact st1n p1 p2 p3 p4 wo.heap.size _ _ hI n5 n8 n12 n16 n14 hT1 hS1 hq1
    have st0 : ∀ (ac : Act) (wo : World), Kept (List.range' 3 16) a0 ac → At ac 4 (.agg #[.slice r.pa r.pn r.pc, .slice r.wa r.wn r.wc]) → At ac 8 (.slice r.ma r.mn r.mc) → At ac 12 (.slice r.sa r.sn r.sc) → At ac 16 (.slice r.na r.nn r.nc) → TwSt W.heap.size wo r d none none none none → (wo.heap[w.heap.size]? = some (rollB r) ∧ wo.heap[w.heap.size + 1]? = some ZB) → Below W.heap.size W wo → R 9 [0, 1, 4, 5, 8, 9, 12, 13] ac wo := by
      intro ac wo hI n4 n8 n12 n16 hT hS hq
      rw [hR]
      refine restF_split [2, 3, 7, 11] (by kernel_rfl) rfl (fun i9 hi9 => ?_)
      have hi9' : i9 = 2 ∨ i9 = 3 ∨ i9 = 7 ∨ i9 = 11 := by simpa using hi9
      clear hi9
      rcases hi9' with rfl | rfl | rfl | rfl
      · refine _root_.id (op_call (k := 2) (d := 5) (R := fun v w' => ∃ p1 p2 p3 p4, v = .agg #[.slice p1 r.pn p2, .slice p3 r.wn p4] ∧ OwnNums w' wo.heap.size 49 4 p1 r.pn p2 d.P ∧ OwnNums w' wo.heap.size 53 5 p3 r.wn p4 d.W ∧ Below wo.heap.size wo w') hI rfl rfl (by kernel_rfl) (Nat.lt_of_le_of_lt (by decide) hsz) (wanted_free rfl) ((twin_any r.pa r.pn r.pc r.wa r.wn r.wc d.P d.W hN.p hN.w HN.out.p HN.out.w _ (HR.out.below hq).p (HR.out.below hq).g).mono fun e w' g => by obtain ⟨a1, c1, a2, c2, h1, h2, h3, h4⟩ := g; exact ⟨_, h1, a1, c1, a2, c2, rfl, h2, h3, h4⟩) (by have e4 := n4; have f4 := n4.eval; unfold At at e4; simp [go_sem, e4]) ?_)
        intro v w' a' hR' hI' n5' hk
        obtain ⟨p1, p2, p3, p4, rfl, h1, h2, hb⟩ := hR'
        refine ⟨fun _ => (And.intro (heap_lft hS.1 hb) (heap_lft hS.2 hb)), ?_⟩
        replace n4 := hk _ _ n4 rfl
        replace n8 := hk _ _ n8 rfl
        replace n12 := hk _ _ n12 rfl
        replace n16 := hk _ _ n16 rfl
        have n5 := n5'
        replace hI := hI'
        clear hk hI' n5'
        obtain ⟨act9, rfl⟩ : ∃ x, x = a' := ⟨_, rfl⟩
        have hT1 := (hT.below hb).setP p1 p2 p3 p4 (h1.base hq.size) (h2.base hq.size)
        have hS1 := (And.intro (heap_lft hS.1 hb) (heap_lft hS.2 hb))
        have hq1 := below_thn hq hb
        refine RestF.same (d' := [0, 1, 4, 5, 8, 9, 12, 13, 2]) ?_ (by kernel_rfl)
        rw [← hR]
        exact st1 p1 p2 p3 p4 _ _ hI n5 n8 n12 n16 hT1 hS1 hq1
      · have hn1 := below_new wo (.cells #[] 3)
        have hT1 := hT.newM hq.size
        have hS1 : (wo.alloc (.cells #[] 3)).heap[w.heap.size]? = some (rollB r) ∧ (wo.alloc (.cells #[] 3)).heap[w.heap.size + 1]? = some ZB := (And.intro (heap_lft hS.1 hn1) (heap_lft hS.2 hn1))
        have hq1 := below_thn hq hn1
        obtain ⟨nw, hwe⟩ : ∃ y, wo.alloc (.cells #[] 3) = y := ⟨_, rfl⟩
        rw [hwe] at hn1 hT1 hS1 hq1
        refine _root_.id (op_value (k := 3) (d := 6) (v := .slice (some ⟨wo.heap.size, 0, none⟩) 0 0) hI rfl rfl (by kernel_rfl) (Nat.lt_of_le_of_lt (by decide) hsz) (wanted_free rfl) (by simp [go_sem]; try rfl) (fun a' hI' n6' hk => ⟨fun _ => by rw [hwe]; exact hS1, ?_⟩))
        replace n4 := hk _ _ n4 rfl
        replace n8 := hk _ _ n8 rfl
        replace n12 := hk _ _ n12 rfl
        replace n16 := hk _ _ n16 rfl
        have n6 := n6'
        replace hI := hI'
        clear hk hI' n6'
        obtain ⟨act9, rfl⟩ : ∃ x, x = a' := ⟨_, rfl⟩
        rw [hwe]
        refine RestF.same (d' := [0, 1, 4, 5, 8, 9, 12, 13, 3]) ?_ (by kernel_rfl)
        rw [← hR]
        exact st0m wo.heap.size _ _ hI n4 n8 n6 n12 n16 hT1 hS1 hq1
      · have hn1 := below_new wo (.cells #[] 47)
        have hT1 := hT.newS hq.size
        have hS1 : (wo.alloc (.cells #[] 47)).heap[w.heap.size]? = some (rollB r) ∧ (wo.alloc (.cells #[] 47)).heap[w.heap.size + 1]? = some ZB := (And.intro (heap_lft hS.1 hn1) (heap_lft hS.2 hn1))
        have hq1 := below_thn hq hn1
        obtain ⟨nw, hwe⟩ : ∃ y, wo.alloc (.cells #[] 47) = y := ⟨_, rfl⟩
        rw [hwe] at hn1 hT1 hS1 hq1
        refine _root_.id (op_value (k := 7) (d := 10) (v := .slice (some ⟨wo.heap.size, 0, none⟩) 0 0) hI rfl rfl (by kernel_rfl) (Nat.lt_of_le_of_lt (by decide) hsz) (wanted_free rfl) (by simp [go_sem]; try rfl) (fun a' hI' n10' hk => ⟨fun _ => by rw [hwe]; exact hS1, ?_⟩))
        replace n4 := hk _ _ n4 rfl
        replace n8 := hk _ _ n8 rfl
        replace n12 := hk _ _ n12 rfl
        replace n16 := hk _ _ n16 rfl
        have n10 := n10'
        replace hI := hI'
        clear hk hI' n10'
        obtain ⟨act9, rfl⟩ : ∃ x, x = a' := ⟨_, rfl⟩
        rw [hwe]
        refine RestF.same (d' := [0, 1, 4, 5, 8, 9, 12, 13, 7]) ?_ (by kernel_rfl)
        rw [← hR]
        exact st0s wo.heap.size _ _ hI n4 n8 n12 n10 n16 hT1 hS1 hq1
      · have hn1 := below_new wo (.cells #[] 34)
        have hT1 := hT.newN hq.size
        have hS1 : (wo.alloc (.cells #[] 34)).heap[w.heap.size]? = some (rollB r) ∧ (wo.alloc (.cells #[] 34)).heap[w.heap.size + 1]? = some ZB := (And.intro (heap_lft hS.1 hn1) (heap_lft hS.2 hn1))
        have hq1 := below_thn hq hn1
        obtain ⟨nw, hwe⟩ : ∃ y, wo.alloc (.cells #[] 34) = y := ⟨_, rfl⟩
        rw [hwe] at hn1 hT1 hS1 hq1
        refine _root_.id (op_value (k := 11) (d := 14) (v := .slice (some ⟨wo.heap.size, 0, none⟩) 0 0) hI rfl rfl (by kernel_rfl) (Nat.lt_of_le_of_lt (by decide) hsz) (wanted_free rfl) (by simp [go_sem]; try rfl) (fun a' hI' n14' hk => ⟨fun _ => by rw [hwe]; exact hS1, ?_⟩))
        replace n4 := hk _ _ n4 rfl
        replace n8 := hk _ _ n8 rfl
        replace n12 := hk _ _ n12 rfl
        replace n16 := hk _ _ n16 rfl
        have n14 := n14'
        replace hI := hI'
        clear hk hI' n14'
        obtain ⟨act9, rfl⟩ : ∃ x, x = a' := ⟨_, rfl⟩
        rw [hwe]
        refine RestF.same (d' := [0, 1, 4, 5, 8, 9, 12, 13, 11]) ?_ (by kernel_rfl)
        rw [← hR]
        exact st0n wo.heap.size _ _ hI n4 n8 n12 n16 n14 hT1 hS1 hq1

    rw [hR]
    refine RestF.same (d' := [0, 1, 4, 5, 8, 9, 12, 13]) ?_ (by kernel_rfl)
    rw [← hR]
    exact st0 _ _ hI n4 n8 n12 n16 (twSt_start _ _ _ _) hS hq
  case rest =>
    obtain ⟨U, rfl⟩ : ∃ x, x = wc := ⟨_, rfl⟩
    obtain ⟨r', hz, ho, e1, e2, e3, e4, e5, hb⟩ := hcut
    have HZ1 := Lib.hid hz
    have HO1 := Lib.hid ho
    have HB1 := Lib.hid hb
    clear hz ho hb
    have z0 := heap_cell HZ1.out (j := 0) rfl
    have z1 := heap_cell HZ1.out (j := 1) rfl
    have z2 := heap_cell HZ1.out (j := 2) rfl
    have z3 := heap_cell HZ1.out (j := 3) rfl
    have z4 := heap_cell HZ1.out (j := 4) rfl
    go_wp2_with fail
    refine bodyPost_ret (v := rollV r') (by simp [results, Tryz.results5, go_sem, z0, z1, z2, z3, z4]; try rfl) rfl ⟨r', rfl, HO1.out.base (by have := HSZ.out; omega), e1, e2, e3, e4, e5, HB1.out⟩

end Go.Proofs.YtijfdfplebbaaaaGreat
