/-
  The contract of without: a roll of its own memory, without some notes.
-/
import Derived.Test.YtijfdfplebbaaaaGreatUDel
import Derived.Test.YtijfdfplebbaaaaGreatRestF
import Derived.Test.YtijfdfplebbaaaaGreatQRef
namespace Go.Proofs.YtijfdfplebbaaaaGreat
open Go.RowKit

theorem OwnNums.cells {w : World} {base : Nat} {t : TypeId} {k : Nat} {a : Option Addr} {len cap : Nat} {F : Nat → Int} (h : OwnNums w base t k a len cap F) (x : Addr) (hx : a = some x) : ∃ cu, w.heap[x.block]? = some (.cells cu t) := by
  obtain ⟨_, ⟨h1, _⟩ | ⟨g, _, cu, he, hb, hg, _⟩⟩ := h
  · subst hx; cases h1
  · subst hx
    simp only [Value.slice.injEq, Option.some.injEq] at he
    obtain ⟨rfl, _⟩ := he
    exact ⟨cu, hg⟩
/-- A slice that is nil is empty. -/
structure RollNil (r : RollX) : Prop where
  p : r.pa = none → r.pn = 0 ∧ r.pc = 0
  w : r.wa = none → r.wn = 0 ∧ r.wc = 0
  m : r.ma = none → r.mn = 0 ∧ r.mc = 0
  s : r.sa = none → r.sn = 0 ∧ r.sc = 0
  n : r.na = none → r.nn = 0 ∧ r.nc = 0
/-- No list is greater than a valid roll's. -/
structure RollS (r : RollX) : Prop where
  p : r.pn ≤ 40
  w : r.wn ≤ 40
  m : r.mn ≤ 40
  s : r.sn ≤ 40
  n : r.nn ≤ 40
/-- A roll of the call's own memory. -/
structure OwnRoll (w : World) (base : Nat) (r : RollX) (d : RollD) : Prop where
  p : OwnNums w base 49 4 r.pa r.pn r.pc d.P
  g : OwnNums w base 53 5 r.wa r.wn r.wc d.W
  m : OwnNums w base 3 1 r.ma r.mn r.mc d.M
  s : OwnNums w base 47 2 r.sa r.sn r.sc d.S
  n : OwnVals w base 34 7 r.na r.nn r.nc (noteF d.N)
theorem OwnRoll.below {w w' : World} {base : Nat} {r : RollX} {d : RollD} (h : OwnRoll w base r d) (hb : Below w.heap.size w w') : OwnRoll w' base r d := ⟨h.p.below hb, h.g.below hb, h.m.below hb, h.s.below hb, h.n.below hb⟩
theorem OwnRoll.base {w : World} {base base' : Nat} {r : RollX} {d : RollD} (h : OwnRoll w base r d) (hb : base' ≤ base) : OwnRoll w base' r d := ⟨h.p.base hb, h.g.base hb, h.m.base hb, h.s.base hb, h.n.base hb⟩
theorem OwnRoll.set {w : World} {base : Nat} {r : RollX} {d : RollD} (h : OwnRoll w base r d) {p : Addr} (hp : p.block < base) (u : Value) : OwnRoll (w.setCell p u) base r d := ⟨h.p.set hp u, h.g.set hp u, h.m.set hp u, h.s.set hp u, h.n.set hp u⟩
theorem OwnRoll.at {w : World} {base : Nat} {r : RollX} {d : RollD} (h : OwnRoll w base r d) : RollAt w r d := ⟨h.p.nums, h.g.nums, by have := h.m.nums; rw [Nat.mul_one] at this; exact this, h.s.nums, h.n.nums.notes⟩

set_option maxHeartbeats 1000000 in
set_option maxRecDepth 100000 in
theorem struck_any (B : Nat) (la : Option Addr) (ln lc : Nat) (L : Nat → Int) (x : NoteX) (hl : ln ≤ 60) (w : World) (hB : w.heap[B]? = some (.cells #[.slice la ln lc] 26)) (hL : NumsAt w la ln L) :
    Calls Tryz.prog 36 #[tnoteV x, .pointer (some ⟨B, 0, none⟩)] w fun e w' => e = .returned (.bool (Pure.has ln L x.n)) ∧ Below w.heap.size w w' := by
  have k0 := heap_cell (heap_up hB (tnoteB x)) (j := 0) rfl
  have HL := Lib.hid (hL.below (below_new w (tnoteB x)))
  clear hB hL
  go_enter Tryz.func36, Tryz.ntmps36
  go_wp2_with fail
  refine (containsNum_any la ln lc L x.n (by omega) _ HL.out).mono ?_
  rintro e u ⟨rfl, hb⟩
  have HB := Lib.hid (below_thn (below_new _ _) hb)
  clear hb k0
  go_wp2_with fail
  go_ret
  exact ⟨rfl, HB.out⟩

/-- What the roll without some notes holds. -/
def Pure.struckD (r : RollX) (d : RollD) (ln : Nat) (L : Nat → Int) : RollD := { d with N := keepX (fun j => has ln L (d.N j).n) d.N r.nn }
set_option maxHeartbeats 16000000 in
set_option maxRecDepth 100000 in
theorem without_any (r : RollX) (d : RollD) (la : Option Addr) (ln lc : Nat) (L : Nat → Int) (hS : RollS r) (hnil : RollNil r) (hl : ln ≤ 60) (w : World) (hR : RollAt w r d) (hL : NumsAt w la ln L) :
    Calls Tryz.prog 17 #[rollV r, .slice la ln lc] w fun e w' => ∃ r', e = .returned (rollV r') ∧ OwnRoll w' w.heap.size r' (Pure.struckD r d ln L) ∧ r'.pn = r.pn ∧ r'.wn = r.wn ∧ r'.mn = r.mn ∧ r'.sn = r.sn ∧ r'.nn = Pure.keepN (fun j => Pure.has ln L (d.N j).n) r.nn ∧ Below w.heap.size w w' := by
  obtain ⟨W, hW⟩ : ∃ W, ((w.alloc (rollB r)).alloc (.cells #[.slice la ln lc] 26)).alloc (.cells #[.slice none 0 0, .slice none 0 0, .slice none 0 0, .slice none 0 0, .slice none 0 0] 30) = W := ⟨_, rfl⟩
  have HB : Hid (Below w.heap.size w W) := Lib.hid (by rw [← hW]; exact ((below_new _ _).alloc (by simp) _).alloc (by simp; omega) _)
  have HX : Hid (W.heap[w.heap.size]? = some (rollB r)) := Lib.hid (by rw [← hW]; exact heap_up (heap_up (heap_top _ _ rfl) _) _)
  have HY : Hid (W.heap[w.heap.size + 1]? = some (.cells #[.slice la ln lc] 26)) := Lib.hid (by rw [← hW]; exact heap_up (heap_top _ _ (by simp)) _)
  have HZ : Hid (W.heap[w.heap.size + 1 + 1]? = some (.cells #[.slice none 0 0, .slice none 0 0, .slice none 0 0, .slice none 0 0, .slice none 0 0] 30)) := Lib.hid (by rw [← hW]; exact heap_top _ _ (by simp))
  have HSZ : Hid (W.heap.size = w.heap.size + 3) := Lib.hid (by rw [← hW]; simp)
  have HR := Lib.hid hR
  have HL := Lib.hid hL
  have HN := Lib.hid hnil
  have HS := Lib.hid hS
  clear hR hL hnil hS
  go_enter Tryz.func17, Tryz.ntmps17
  go_upto_region 1 with fail
  try rw [hW]
  clear hW
  go_cut [] from 6 to 17 (fun wx => ∃ a1 c1 b1 d1, wx.heap[w.heap.size]? = some (.cells #[.slice a1 r.pn c1, .slice b1 r.wn d1, .slice r.ma r.mn r.mc, .slice r.sa r.sn r.sc, .slice r.na r.nn r.nc] 30) ∧ OwnNums wx W.heap.size 49 4 a1 r.pn c1 d.P ∧ OwnNums wx W.heap.size 53 5 b1 r.wn d1 d.W ∧ wx.heap[w.heap.size + 1]? = some (.cells #[.slice la ln lc] 26) ∧ wx.heap[w.heap.size + 1 + 1]? = some (.cells #[.slice none 0 0, .slice none 0 0, .slice none 0 0, .slice none 0 0, .slice none 0 0] 30) ∧ Below w.heap.size w wx ∧ W.heap.size ≤ wx.heap.size)
  case first =>
    rename_i J K' hJ hK'
    generalize hA : (Act.mk _ _ : Act) = a0
    have m2 : At a0 2 (.pointer (some ⟨w.heap.size, 0, none⟩)) := by rw [← hA]; rfl
    have hsz : 17 < a0.tmps.size := by rw [← hA]; exact of_decide_eq_true (by kernel_rfl)
    have hfin : ∀ a' w', Kept (List.range' 6 12) a0 a' → (∃ a1 c1 b1 d1, w'.heap[w.heap.size]? = some (.cells #[.slice a1 r.pn c1, .slice b1 r.wn d1, .slice r.ma r.mn r.mc, .slice r.sa r.sn r.sc, .slice r.na r.nn r.nc] 30) ∧ OwnNums w' W.heap.size 49 4 a1 r.pn c1 d.P ∧ OwnNums w' W.heap.size 53 5 b1 r.wn d1 d.W ∧ w'.heap[w.heap.size + 1]? = some (.cells #[.slice la ln lc] 26) ∧ w'.heap[w.heap.size + 1 + 1]? = some (.cells #[.slice none 0 0, .slice none 0 0, .slice none 0 0, .slice none 0 0, .slice none 0 0] 30) ∧ Below w.heap.size w w' ∧ W.heap.size ≤ w'.heap.size) → K' a' w' := by
      intro a' w' hI hL
      refine hK' _ _ (Met.intro (hJ _ _ ⟨a'.tmps.getD 6 undef, a'.tmps.getD 7 undef, a'.tmps.getD 8 undef, a'.tmps.getD 9 undef, a'.tmps.getD 10 undef, a'.tmps.getD 11 undef, a'.tmps.getD 12 undef, a'.tmps.getD 13 undef, a'.tmps.getD 14 undef, a'.tmps.getD 15 undef, a'.tmps.getD 16 undef, a'.tmps.getD 17 undef, hL, hI.eq.trans ?_⟩))
      rw [← hA]
      kernel_rfl
    have hI : Kept (List.range' 6 12) a0 a0 := Kept.refl _ _
    clear hA hJ hK' J
    refine with_pan (fun d _ _ _ _ h => by cases d <;> exact h) ?_
    intro hpan
    refine wp_region_restF (fun j => Nat.ble 10 j) (fun z => z.heap[w.heap.size]? = some (rollB r)) (by kernel_rfl) ?_
    obtain ⟨wz, hwz⟩ : ∃ x, W.drew = x := ⟨_, rfl⟩
    change RestF _ _ _ _ _ _ _ _ (W.drew)
    rw [hwz]
    have hq : Below W.heap.size W wz := by rw [← hwz]; exact (Below.refl _ _).drew
    clear hwz
    have hS : wz.heap[w.heap.size]? = some (rollB r) := heap_lft HX.out hq
    refine restF_take (k := 0) (d := 6) (v := .pointer (some ⟨w.heap.size, 0, none⟩)) hI rfl rfl (by kernel_rfl) (Nat.lt_of_le_of_lt (by decide) hsz) (by kernel_rfl) hpan (by kernel_rfl) hS (wanted_free rfl) (fun z hz => by have n2 := hI.at m2 (by kernel_rfl); have e2 := n2; have f2 := n2.eval; unfold At at e2; simp [go_sem, e2]) (fun a' hI' n6' hk => ?_)
    have n6 := n6'
    replace hI := hI'
    clear hk hI' n6'
    obtain ⟨act9, rfl⟩ : ∃ x, x = a' := ⟨_, rfl⟩
    refine restF_take (k := 1) (d := 7) (v := .pointer (some ⟨w.heap.size, 0, none⟩)) hI rfl rfl (by kernel_rfl) (Nat.lt_of_le_of_lt (by decide) hsz) (by kernel_rfl) hpan (by kernel_rfl) hS (wanted_free rfl) (fun z hz => by have e6 := n6; have f6 := n6.eval; unfold At at e6; simp [go_sem, e6]) (fun a' hI' n7' hk => ?_)
    replace n6 := hk _ _ n6 rfl
    have n7 := n7'
    replace hI := hI'
    clear hk hI' n7'
    obtain ⟨act9, rfl⟩ : ∃ x, x = a' := ⟨_, rfl⟩
    clear n6
    refine restF_take (k := 2) (d := 8) (v := .slice r.pa r.pn r.pc) hI rfl rfl (by kernel_rfl) (Nat.lt_of_le_of_lt (by decide) hsz) (by kernel_rfl) hpan (by kernel_rfl) hS (wanted_free rfl) (fun z hz => by have e7 := n7; have f7 := n7.eval; unfold At at e7; have k0 := heap_cell hz (j := 0) rfl; simp [go_sem, e7, k0]) (fun a' hI' n8' hk => ?_)
    replace n7 := hk _ _ n7 rfl
    have n8 := n8'
    replace hI := hI'
    clear hk hI' n8'
    obtain ⟨act9, rfl⟩ : ∃ x, x = a' := ⟨_, rfl⟩
    clear n7
    refine restF_take (k := 4) (d := 10) (v := .pointer (some ⟨w.heap.size, 0, none⟩)) hI rfl rfl (by kernel_rfl) (Nat.lt_of_le_of_lt (by decide) hsz) (by kernel_rfl) hpan (by kernel_rfl) hS (wanted_free rfl) (fun z hz => by have n2 := hI.at m2 (by kernel_rfl); have e2 := n2; have f2 := n2.eval; unfold At at e2; simp [go_sem, e2]) (fun a' hI' n10' hk => ?_)
    replace n8 := hk _ _ n8 rfl
    have n10 := n10'
    replace hI := hI'
    clear hk hI' n10'
    obtain ⟨act9, rfl⟩ : ∃ x, x = a' := ⟨_, rfl⟩
    refine restF_take (k := 5) (d := 11) (v := .pointer (some ⟨w.heap.size, 1, none⟩)) hI rfl rfl (by kernel_rfl) (Nat.lt_of_le_of_lt (by decide) hsz) (by kernel_rfl) hpan (by kernel_rfl) hS (wanted_free rfl) (fun z hz => by have e10 := n10; have f10 := n10.eval; unfold At at e10; simp [go_sem, e10]) (fun a' hI' n11' hk => ?_)
    replace n8 := hk _ _ n8 rfl
    replace n10 := hk _ _ n10 rfl
    have n11 := n11'
    replace hI := hI'
    clear hk hI' n11'
    obtain ⟨act9, rfl⟩ : ∃ x, x = a' := ⟨_, rfl⟩
    clear n10
    refine restF_take (k := 6) (d := 12) (v := .slice r.wa r.wn r.wc) hI rfl rfl (by kernel_rfl) (Nat.lt_of_le_of_lt (by decide) hsz) (by kernel_rfl) hpan (by kernel_rfl) hS (wanted_free rfl) (fun z hz => by have e11 := n11; have f11 := n11.eval; unfold At at e11; have k1 := heap_cell hz (j := 1) rfl; simp [go_sem, e11, k1]) (fun a' hI' n12' hk => ?_)
    replace n8 := hk _ _ n8 rfl
    replace n11 := hk _ _ n11 rfl
    have n12 := n12'
    replace hI := hI'
    clear hk hI' n12'
    obtain ⟨act9, rfl⟩ : ∃ x, x = a' := ⟨_, rfl⟩
    clear n11
    refine restF_only (k := 3) (by kernel_rfl) (op_call (k := 3) (d := 9) (R := fun v w' => ∃ a1 c1, v = .slice a1 r.pn c1 ∧ OwnNums w' wz.heap.size 49 4 a1 r.pn c1 d.P ∧ Below wz.heap.size wz w') hI rfl rfl (by kernel_rfl) (Nat.lt_of_le_of_lt (by decide) hsz) (wanted_free rfl) ((cloneRing_any r.pa r.pn r.pc d.P HS.out.p HN.out.p _ (HR.out.below (below_thn HB.out hq)).p).mono fun e w' g => by obtain ⟨a1, c1, h1, h2, h3⟩ := g; exact ⟨_, h1, a1, c1, rfl, h2, h3⟩) (by have e8 := n8; have f8 := n8.eval; unfold At at e8; simp [go_sem, e8]) ?_)
    intro v w' a' hR' hI' n9' hk
    obtain ⟨a1, c1, rfl, ho, hb⟩ := hR'
    refine ⟨fun _ => heap_lft hS hb, ?_⟩
    replace n8 := hk _ _ n8 rfl
    replace n12 := hk _ _ n12 rfl
    have n9 := n9'
    replace hI := hI'
    clear hk hI' n9'
    obtain ⟨act9, rfl⟩ : ∃ x, x = a' := ⟨_, rfl⟩
    replace hS : w'.heap[w.heap.size]? = some (rollB r) := heap_lft hS hb
    replace ho := ho.base hq.size
    replace hq := below_thn hq hb
    clear hb
    obtain ⟨u1, rfl⟩ : ∃ y, y = w' := ⟨_, rfl⟩
    clear n8
    refine restF_split [7, 8] (by kernel_rfl) rfl (fun i9 hi9 => ?_)
    have hi9' : i9 = 7 ∨ i9 = 8 := by simpa using hi9
    clear hi9
    rcases hi9' with rfl | rfl
    · refine _root_.id (op_call (k := 7) (d := 13) (R := fun v w' => ∃ b1 d1, v = .slice b1 r.wn d1 ∧ OwnNums w' u1.heap.size 53 5 b1 r.wn d1 d.W ∧ Below u1.heap.size u1 w') hI rfl rfl (by kernel_rfl) (Nat.lt_of_le_of_lt (by decide) hsz) (wanted_free rfl) ((cloneWeigh_any r.wa r.wn r.wc d.W HS.out.w HN.out.w _ (HR.out.below (below_thn HB.out hq)).g).mono fun e w' g => by obtain ⟨a1, c1, h1, h2, h3⟩ := g; exact ⟨_, h1, a1, c1, rfl, h2, h3⟩) (by have e12 := n12; have f12 := n12.eval; unfold At at e12; simp [go_sem, e12]) ?_)
      intro v w' a' hR' hI' n13' hk
      obtain ⟨b1, d1, rfl, ho2, hb⟩ := hR'
      refine ⟨fun _ => heap_lft hS hb, ?_⟩
      replace n12 := hk _ _ n12 rfl
      replace n9 := hk _ _ n9 rfl
      have n13 := n13'
      replace hI := hI'
      clear hk hI' n13'
      obtain ⟨act9, rfl⟩ : ∃ x, x = a' := ⟨_, rfl⟩
      replace hS : w'.heap[w.heap.size]? = some (rollB r) := heap_lft hS hb
      replace ho := ho.below hb
      replace ho2 := ho2.base hq.size
      replace hq := below_thn hq hb
      clear hb
      obtain ⟨u2, rfl⟩ : ∃ y, y = w' := ⟨_, rfl⟩
      clear n12
      refine restF_only (k := 8) (by kernel_rfl) (op_value (k := 8) (d := 14) (v := .pointer (some ⟨w.heap.size, 0, none⟩)) hI rfl rfl (by kernel_rfl) (Nat.lt_of_le_of_lt (by decide) hsz) (wanted_free rfl) (by have n2 := hI.at m2 (by kernel_rfl); have e2 := n2; have f2 := n2.eval; unfold At at e2; simp [go_sem, e2]; try rfl) (fun a' hI' n14' hk => ⟨fun _ => hS, ?_⟩))
      replace n9 := hk _ _ n9 rfl
      replace n13 := hk _ _ n13 rfl
      have n14 := n14'
      replace hI := hI'
      clear hk hI' n14'
      obtain ⟨act9, rfl⟩ : ∃ x, x = a' := ⟨_, rfl⟩
      refine restF_only (k := 9) (by kernel_rfl) (op_value (k := 9) (d := 15) (v := .pointer (some ⟨w.heap.size, 0, none⟩)) hI rfl rfl (by kernel_rfl) (Nat.lt_of_le_of_lt (by decide) hsz) (wanted_free rfl) (by have e14 := n14; have f14 := n14.eval; unfold At at e14; simp [go_sem, e14]; try rfl) (fun a' hI' n15' hk => ⟨fun _ => hS, ?_⟩))
      replace n9 := hk _ _ n9 rfl
      replace n13 := hk _ _ n13 rfl
      replace n14 := hk _ _ n14 rfl
      have n15 := n15'
      replace hI := hI'
      clear hk hI' n15'
      obtain ⟨act9, rfl⟩ : ∃ x, x = a' := ⟨_, rfl⟩
      clear n14
      have hsz2 := HSZ.out
      have hS2 := heap_set hS 0 (.slice a1 r.pn c1)
      have hS3 := heap_set hS2 1 (.slice b1 r.wn d1)
      refine restF_only (k := 10) (by kernel_rfl) (op_store (k := 10) rfl rfl (wanted_free rfl) (by have e9 := n9; have f9 := n9.eval; unfold At at e9; have e15 := n15; have f15 := n15.eval; unfold At at e15; have k0 := heap_cell hS (j := 0) rfl; have f0 := heap_frozen hS 0; simp [go_sem, e9, e15, k0, f0]; try rfl) ⟨fun hf => absurd hf (by decide), ?_⟩)
      clear n15
      clear n9
      obtain ⟨y1, hy1⟩ : ∃ y, u2.setCell ⟨w.heap.size, 0, none⟩ (.slice a1 r.pn c1) = y := ⟨_, rfl⟩
      rw [hy1] at hS2 hS3 ⊢
      have hOa : OwnNums y1 W.heap.size 49 4 a1 r.pn c1 d.P := by rw [← hy1]; exact ho.set (by dsimp only; omega) _
      have hOb : OwnNums y1 W.heap.size 53 5 b1 r.wn d1 d.W := by rw [← hy1]; exact ho2.set (by dsimp only; omega) _
      have hY1 : y1.heap[w.heap.size + 1]? = some (.cells #[.slice la ln lc] 26) := by rw [← hy1]; exact (setCell_other (by dsimp only; omega)).trans (heap_lft HY.out hq)
      have hZ1 : y1.heap[w.heap.size + 1 + 1]? = some (.cells #[.slice none 0 0, .slice none 0 0, .slice none 0 0, .slice none 0 0, .slice none 0 0] 30) := by rw [← hy1]; exact (setCell_other (by dsimp only; omega)).trans (heap_lft HZ.out hq)
      have hB1 : Below w.heap.size w y1 := by rw [← hy1]; exact (below_thn HB.out hq).setCell (by dsimp only; omega) _
      have hs1 : W.heap.size ≤ y1.heap.size := by rw [← hy1]; simpa using hq.size
      clear hy1 hS ho ho2
      refine restF_only (k := 11) (by kernel_rfl) (op_value (k := 11) (d := 16) (v := .pointer (some ⟨w.heap.size, 0, none⟩)) hI rfl rfl (by kernel_rfl) (Nat.lt_of_le_of_lt (by decide) hsz) (wanted_free rfl) (by have n2 := hI.at m2 (by kernel_rfl); have e2 := n2; have f2 := n2.eval; unfold At at e2; simp [go_sem, e2]; try rfl) (fun a' hI' n16' hk => ⟨fun hf => absurd hf (by decide), ?_⟩))
      replace n13 := hk _ _ n13 rfl
      have n16 := n16'
      replace hI := hI'
      clear hk hI' n16'
      obtain ⟨act9, rfl⟩ : ∃ x, x = a' := ⟨_, rfl⟩
      refine restF_only (k := 12) (by kernel_rfl) (op_value (k := 12) (d := 17) (v := .pointer (some ⟨w.heap.size, 1, none⟩)) hI rfl rfl (by kernel_rfl) (Nat.lt_of_le_of_lt (by decide) hsz) (wanted_free rfl) (by have e16 := n16; have f16 := n16.eval; unfold At at e16; simp [go_sem, e16]; try rfl) (fun a' hI' n17' hk => ⟨fun hf => absurd hf (by decide), ?_⟩))
      replace n13 := hk _ _ n13 rfl
      replace n16 := hk _ _ n16 rfl
      have n17 := n17'
      replace hI := hI'
      clear hk hI' n17'
      obtain ⟨act9, rfl⟩ : ∃ x, x = a' := ⟨_, rfl⟩
      clear n16
      refine restF_only (k := 13) (by kernel_rfl) (op_store (k := 13) rfl rfl (wanted_free rfl) (by have e13 := n13; have f13 := n13.eval; unfold At at e13; have e17 := n17; have f17 := n17.eval; unfold At at e17; have k1 := heap_cell hS2 (j := 1) rfl; have f1 := heap_frozen hS2 1; simp [go_sem, e13, e17, k1, f1]; try rfl) ⟨fun hf => absurd hf (by decide), ?_⟩)
      refine restF_done (by kernel_rfl) ?_
      exact hfin _ _ hI ⟨a1, c1, b1, d1, hS3, hOa.set (by dsimp only; omega) _, hOb.set (by dsimp only; omega) _, (setCell_other (by dsimp only; omega)).trans hY1, (setCell_other (by dsimp only; omega)).trans hZ1, hB1.setCell (by dsimp only; omega) _, by simpa using hs1⟩
    · refine _root_.id (op_value (k := 8) (d := 14) (v := .pointer (some ⟨w.heap.size, 0, none⟩)) hI rfl rfl (by kernel_rfl) (Nat.lt_of_le_of_lt (by decide) hsz) (wanted_free rfl) (by have n2 := hI.at m2 (by kernel_rfl); have e2 := n2; have f2 := n2.eval; unfold At at e2; simp [go_sem, e2]; try rfl) (fun a' hI' n14' hk => ⟨fun _ => hS, ?_⟩))
      replace n12 := hk _ _ n12 rfl
      replace n9 := hk _ _ n9 rfl
      have n14 := n14'
      replace hI := hI'
      clear hk hI' n14'
      obtain ⟨act9, rfl⟩ : ∃ x, x = a' := ⟨_, rfl⟩
      refine restF_take (k := 9) (d := 15) (v := .pointer (some ⟨w.heap.size, 0, none⟩)) hI rfl rfl (by kernel_rfl) (Nat.lt_of_le_of_lt (by decide) hsz) (by kernel_rfl) hpan (by kernel_rfl) hS (wanted_free rfl) (fun z hz => by have e14 := n14; have f14 := n14.eval; unfold At at e14; simp [go_sem, e14]) (fun a' hI' n15' hk => ?_)
      replace n12 := hk _ _ n12 rfl
      replace n9 := hk _ _ n9 rfl
      replace n14 := hk _ _ n14 rfl
      have n15 := n15'
      replace hI := hI'
      clear hk hI' n15'
      obtain ⟨act9, rfl⟩ : ∃ x, x = a' := ⟨_, rfl⟩
      clear n14
      refine restF_only (k := 7) (by kernel_rfl) (op_call (k := 7) (d := 13) (R := fun v w' => ∃ b1 d1, v = .slice b1 r.wn d1 ∧ OwnNums w' u1.heap.size 53 5 b1 r.wn d1 d.W ∧ Below u1.heap.size u1 w') hI rfl rfl (by kernel_rfl) (Nat.lt_of_le_of_lt (by decide) hsz) (wanted_free rfl) ((cloneWeigh_any r.wa r.wn r.wc d.W HS.out.w HN.out.w _ (HR.out.below (below_thn HB.out hq)).g).mono fun e w' g => by obtain ⟨a1, c1, h1, h2, h3⟩ := g; exact ⟨_, h1, a1, c1, rfl, h2, h3⟩) (by have e12 := n12; have f12 := n12.eval; unfold At at e12; simp [go_sem, e12]) ?_)
      intro v w' a' hR' hI' n13' hk
      obtain ⟨b1, d1, rfl, ho2, hb⟩ := hR'
      refine ⟨fun _ => heap_lft hS hb, ?_⟩
      replace n12 := hk _ _ n12 rfl
      replace n9 := hk _ _ n9 rfl
      replace n15 := hk _ _ n15 rfl
      have n13 := n13'
      replace hI := hI'
      clear hk hI' n13'
      obtain ⟨act9, rfl⟩ : ∃ x, x = a' := ⟨_, rfl⟩
      replace hS : w'.heap[w.heap.size]? = some (rollB r) := heap_lft hS hb
      replace ho := ho.below hb
      replace ho2 := ho2.base hq.size
      replace hq := below_thn hq hb
      clear hb
      obtain ⟨u2, rfl⟩ : ∃ y, y = w' := ⟨_, rfl⟩
      clear n12
      have hsz2 := HSZ.out
      have hS2 := heap_set hS 0 (.slice a1 r.pn c1)
      have hS3 := heap_set hS2 1 (.slice b1 r.wn d1)
      refine restF_only (k := 10) (by kernel_rfl) (op_store (k := 10) rfl rfl (wanted_free rfl) (by have e9 := n9; have f9 := n9.eval; unfold At at e9; have e15 := n15; have f15 := n15.eval; unfold At at e15; have k0 := heap_cell hS (j := 0) rfl; have f0 := heap_frozen hS 0; simp [go_sem, e9, e15, k0, f0]; try rfl) ⟨fun hf => absurd hf (by decide), ?_⟩)
      clear n15
      clear n9
      obtain ⟨y1, hy1⟩ : ∃ y, u2.setCell ⟨w.heap.size, 0, none⟩ (.slice a1 r.pn c1) = y := ⟨_, rfl⟩
      rw [hy1] at hS2 hS3 ⊢
      have hOa : OwnNums y1 W.heap.size 49 4 a1 r.pn c1 d.P := by rw [← hy1]; exact ho.set (by dsimp only; omega) _
      have hOb : OwnNums y1 W.heap.size 53 5 b1 r.wn d1 d.W := by rw [← hy1]; exact ho2.set (by dsimp only; omega) _
      have hY1 : y1.heap[w.heap.size + 1]? = some (.cells #[.slice la ln lc] 26) := by rw [← hy1]; exact (setCell_other (by dsimp only; omega)).trans (heap_lft HY.out hq)
      have hZ1 : y1.heap[w.heap.size + 1 + 1]? = some (.cells #[.slice none 0 0, .slice none 0 0, .slice none 0 0, .slice none 0 0, .slice none 0 0] 30) := by rw [← hy1]; exact (setCell_other (by dsimp only; omega)).trans (heap_lft HZ.out hq)
      have hB1 : Below w.heap.size w y1 := by rw [← hy1]; exact (below_thn HB.out hq).setCell (by dsimp only; omega) _
      have hs1 : W.heap.size ≤ y1.heap.size := by rw [← hy1]; simpa using hq.size
      clear hy1 hS ho ho2
      refine restF_only (k := 11) (by kernel_rfl) (op_value (k := 11) (d := 16) (v := .pointer (some ⟨w.heap.size, 0, none⟩)) hI rfl rfl (by kernel_rfl) (Nat.lt_of_le_of_lt (by decide) hsz) (wanted_free rfl) (by have n2 := hI.at m2 (by kernel_rfl); have e2 := n2; have f2 := n2.eval; unfold At at e2; simp [go_sem, e2]; try rfl) (fun a' hI' n16' hk => ⟨fun hf => absurd hf (by decide), ?_⟩))
      replace n13 := hk _ _ n13 rfl
      have n16 := n16'
      replace hI := hI'
      clear hk hI' n16'
      obtain ⟨act9, rfl⟩ : ∃ x, x = a' := ⟨_, rfl⟩
      refine restF_only (k := 12) (by kernel_rfl) (op_value (k := 12) (d := 17) (v := .pointer (some ⟨w.heap.size, 1, none⟩)) hI rfl rfl (by kernel_rfl) (Nat.lt_of_le_of_lt (by decide) hsz) (wanted_free rfl) (by have e16 := n16; have f16 := n16.eval; unfold At at e16; simp [go_sem, e16]; try rfl) (fun a' hI' n17' hk => ⟨fun hf => absurd hf (by decide), ?_⟩))
      replace n13 := hk _ _ n13 rfl
      replace n16 := hk _ _ n16 rfl
      have n17 := n17'
      replace hI := hI'
      clear hk hI' n17'
      obtain ⟨act9, rfl⟩ : ∃ x, x = a' := ⟨_, rfl⟩
      clear n16
      refine restF_only (k := 13) (by kernel_rfl) (op_store (k := 13) rfl rfl (wanted_free rfl) (by have e13 := n13; have f13 := n13.eval; unfold At at e13; have e17 := n17; have f17 := n17.eval; unfold At at e17; have k1 := heap_cell hS2 (j := 1) rfl; have f1 := heap_frozen hS2 1; simp [go_sem, e13, e17, k1, f1]; try rfl) ⟨fun hf => absurd hf (by decide), ?_⟩)
      refine restF_done (by kernel_rfl) ?_
      exact hfin _ _ hI ⟨a1, c1, b1, d1, hS3, hOa.set (by dsimp only; omega) _, hOb.set (by dsimp only; omega) _, (setCell_other (by dsimp only; omega)).trans hY1, (setCell_other (by dsimp only; omega)).trans hZ1, hB1.setCell (by dsimp only; omega) _, by simpa using hs1⟩
  case rest =>
    obtain ⟨V, rfl⟩ : ∃ x, x = wc := ⟨_, rfl⟩
    obtain ⟨a1, c1, b1, d1, hx, o1, o2, hy, hz, hb, hs⟩ := hcut
    have HX1 := Lib.hid hx
    have HY1 := Lib.hid hy
    have HZ1 := Lib.hid hz
    have HB1 := Lib.hid hb
    have HS1 := Lib.hid hs
    have HO1 := Lib.hid o1
    have HO2 := Lib.hid o2
    clear hx o1 o2 hy hz hb hs HX HY HZ HB
    go_upto_region 2 with fail
    go_cut [] from 18 to 25 (fun wx => ∃ a2 c2 b2 d2, wx.heap[w.heap.size]? = some (.cells #[.slice a1 r.pn c1, .slice b1 r.wn d1, .slice a2 r.mn c2, .slice b2 r.sn d2, .slice r.na r.nn r.nc] 30) ∧ OwnNums wx W.heap.size 49 4 a1 r.pn c1 d.P ∧ OwnNums wx W.heap.size 53 5 b1 r.wn d1 d.W ∧ OwnNums wx W.heap.size 3 1 a2 r.mn c2 d.M ∧ OwnNums wx W.heap.size 47 2 b2 r.sn d2 d.S ∧ wx.heap[w.heap.size + 1]? = some (.cells #[.slice la ln lc] 26) ∧ wx.heap[w.heap.size + 1 + 1]? = some (.cells #[.slice none 0 0, .slice none 0 0, .slice none 0 0, .slice none 0 0, .slice none 0 0] 30) ∧ Below w.heap.size w wx ∧ W.heap.size ≤ wx.heap.size)
    case first =>
      rename_i J K' hJ hK'
      generalize hA : (Act.mk _ _ : Act) = a0
      have m2 : At a0 2 (.pointer (some ⟨w.heap.size, 0, none⟩)) := by rw [← hA]; rfl
      have hsz : 25 < a0.tmps.size := by rw [← hA]; exact of_decide_eq_true (by kernel_rfl)
      have hfin : ∀ a' w', Kept (List.range' 18 8) a0 a' → (∃ a2 c2 b2 d2, w'.heap[w.heap.size]? = some (.cells #[.slice a1 r.pn c1, .slice b1 r.wn d1, .slice a2 r.mn c2, .slice b2 r.sn d2, .slice r.na r.nn r.nc] 30) ∧ OwnNums w' W.heap.size 49 4 a1 r.pn c1 d.P ∧ OwnNums w' W.heap.size 53 5 b1 r.wn d1 d.W ∧ OwnNums w' W.heap.size 3 1 a2 r.mn c2 d.M ∧ OwnNums w' W.heap.size 47 2 b2 r.sn d2 d.S ∧ w'.heap[w.heap.size + 1]? = some (.cells #[.slice la ln lc] 26) ∧ w'.heap[w.heap.size + 1 + 1]? = some (.cells #[.slice none 0 0, .slice none 0 0, .slice none 0 0, .slice none 0 0, .slice none 0 0] 30) ∧ Below w.heap.size w w' ∧ W.heap.size ≤ w'.heap.size) → K' a' w' := by
        intro a' w' hI hL
        refine hK' _ _ (Met.intro (hJ _ _ ⟨a'.tmps.getD 18 undef, a'.tmps.getD 19 undef, a'.tmps.getD 20 undef, a'.tmps.getD 21 undef, a'.tmps.getD 22 undef, a'.tmps.getD 23 undef, a'.tmps.getD 24 undef, a'.tmps.getD 25 undef, hL, hI.eq.trans ?_⟩))
        rw [← hA]
        kernel_rfl
      have hI : Kept (List.range' 18 8) a0 a0 := Kept.refl _ _
      clear hA hJ hK' J
      refine with_pan (fun d _ _ _ _ h => by cases d <;> exact h) ?_
      intro hpan
      refine wp_region_restF (fun j => Nat.ble 7 j) (fun z => z.heap[w.heap.size]? = some (.cells #[.slice a1 r.pn c1, .slice b1 r.wn d1, .slice r.ma r.mn r.mc, .slice r.sa r.sn r.sc, .slice r.na r.nn r.nc] 30)) (by kernel_rfl) ?_
      obtain ⟨wz, hwz⟩ : ∃ x, V.drew = x := ⟨_, rfl⟩
      change RestF _ _ _ _ _ _ _ _ (V.drew)
      rw [hwz]
      have hq : Below V.heap.size V wz := by rw [← hwz]; exact (Below.refl _ _).drew
      clear hwz
      have hS : wz.heap[w.heap.size]? = some (.cells #[.slice a1 r.pn c1, .slice b1 r.wn d1, .slice r.ma r.mn r.mc, .slice r.sa r.sn r.sc, .slice r.na r.nn r.nc] 30) := heap_lft HX1.out hq
      have o1 := HO1.out.below hq
      have o2 := HO2.out.below hq
      have hqs : W.heap.size ≤ wz.heap.size := Nat.le_trans HS1.out hq.size
      refine restF_take (k := 0) (d := 18) (v := .pointer (some ⟨w.heap.size, 2, none⟩)) hI rfl rfl (by kernel_rfl) (Nat.lt_of_le_of_lt (by decide) hsz) (by kernel_rfl) hpan (by kernel_rfl) hS (wanted_free rfl) (fun z hz => by have n2 := hI.at m2 (by kernel_rfl); have e2 := n2; have f2 := n2.eval; unfold At at e2; simp [go_sem, e2]) (fun a' hI' n18' hk => ?_)
      have n18 := n18'
      replace hI := hI'
      clear hk hI' n18'
      obtain ⟨act9, rfl⟩ : ∃ x, x = a' := ⟨_, rfl⟩
      refine restF_take (k := 1) (d := 19) (v := .slice r.ma r.mn r.mc) hI rfl rfl (by kernel_rfl) (Nat.lt_of_le_of_lt (by decide) hsz) (by kernel_rfl) hpan (by kernel_rfl) hS (wanted_free rfl) (fun z hz => by have e18 := n18; have f18 := n18.eval; unfold At at e18; have k2 := heap_cell hz (j := 2) rfl; simp [go_sem, e18, k2]) (fun a' hI' n19' hk => ?_)
      replace n18 := hk _ _ n18 rfl
      have n19 := n19'
      replace hI := hI'
      clear hk hI' n19'
      obtain ⟨act9, rfl⟩ : ∃ x, x = a' := ⟨_, rfl⟩
      clear n18
      refine restF_take (k := 3) (d := 21) (v := .pointer (some ⟨w.heap.size, 3, none⟩)) hI rfl rfl (by kernel_rfl) (Nat.lt_of_le_of_lt (by decide) hsz) (by kernel_rfl) hpan (by kernel_rfl) hS (wanted_free rfl) (fun z hz => by have n2 := hI.at m2 (by kernel_rfl); have e2 := n2; have f2 := n2.eval; unfold At at e2; simp [go_sem, e2]) (fun a' hI' n21' hk => ?_)
      replace n19 := hk _ _ n19 rfl
      have n21 := n21'
      replace hI := hI'
      clear hk hI' n21'
      obtain ⟨act9, rfl⟩ : ∃ x, x = a' := ⟨_, rfl⟩
      refine restF_take (k := 4) (d := 22) (v := .slice r.sa r.sn r.sc) hI rfl rfl (by kernel_rfl) (Nat.lt_of_le_of_lt (by decide) hsz) (by kernel_rfl) hpan (by kernel_rfl) hS (wanted_free rfl) (fun z hz => by have e21 := n21; have f21 := n21.eval; unfold At at e21; have k3 := heap_cell hz (j := 3) rfl; simp [go_sem, e21, k3]) (fun a' hI' n22' hk => ?_)
      replace n19 := hk _ _ n19 rfl
      replace n21 := hk _ _ n21 rfl
      have n22 := n22'
      replace hI := hI'
      clear hk hI' n22'
      obtain ⟨act9, rfl⟩ : ∃ x, x = a' := ⟨_, rfl⟩
      clear n21
      refine restF_only (k := 2) (by kernel_rfl) (op_call (k := 2) (d := 20) (R := fun v w' => ∃ a2 c2, v = .slice a2 r.mn c2 ∧ OwnNums w' wz.heap.size 3 1 a2 r.mn c2 d.M ∧ Below wz.heap.size wz w') hI rfl rfl (by kernel_rfl) (Nat.lt_of_le_of_lt (by decide) hsz) (wanted_free rfl) ((cloneNum_any r.ma r.mn r.mc d.M HS.out.m HN.out.m _ (by rw [Nat.mul_one]; exact (HR.out.below (below_thn HB1.out hq)).m)).mono fun e w' g => by obtain ⟨a1, c1, h1, h2, h3⟩ := g; exact ⟨_, h1, a1, c1, rfl, h2, h3⟩) (by have e19 := n19; have f19 := n19.eval; unfold At at e19; simp [go_sem, e19]) ?_)
      intro v w' a' hR' hI' n20' hk
      obtain ⟨a2, c2, rfl, o3, hb⟩ := hR'
      refine ⟨fun _ => heap_lft hS hb, ?_⟩
      replace n19 := hk _ _ n19 rfl
      replace n22 := hk _ _ n22 rfl
      have n20 := n20'
      replace hI := hI'
      clear hk hI' n20'
      obtain ⟨act9, rfl⟩ : ∃ x, x = a' := ⟨_, rfl⟩
      replace hS : w'.heap[w.heap.size]? = some (.cells #[.slice a1 r.pn c1, .slice b1 r.wn d1, .slice r.ma r.mn r.mc, .slice r.sa r.sn r.sc, .slice r.na r.nn r.nc] 30) := heap_lft hS hb
      replace o3 := o3.base hqs
      replace o1 := o1.below hb
      replace o2 := o2.below hb
      replace hq := below_thn hq hb
      replace hqs := Nat.le_trans hqs hb.size
      clear hb
      obtain ⟨u1, rfl⟩ : ∃ y, y = w' := ⟨_, rfl⟩
      clear n19
      refine restF_take (k := 6) (d := 24) (v := .pointer (some ⟨w.heap.size, 2, none⟩)) hI rfl rfl (by kernel_rfl) (Nat.lt_of_le_of_lt (by decide) hsz) (by kernel_rfl) hpan (by kernel_rfl) hS (wanted_free rfl) (fun z hz => by have n2 := hI.at m2 (by kernel_rfl); have e2 := n2; have f2 := n2.eval; unfold At at e2; simp [go_sem, e2]) (fun a' hI' n24' hk => ?_)
      replace n22 := hk _ _ n22 rfl
      replace n20 := hk _ _ n20 rfl
      have n24 := n24'
      replace hI := hI'
      clear hk hI' n24'
      obtain ⟨act9, rfl⟩ : ∃ x, x = a' := ⟨_, rfl⟩
      refine restF_only (k := 5) (by kernel_rfl) (op_call (k := 5) (d := 23) (R := fun v w' => ∃ b2 d2, v = .slice b2 r.sn d2 ∧ OwnNums w' u1.heap.size 47 2 b2 r.sn d2 d.S ∧ Below u1.heap.size u1 w') hI rfl rfl (by kernel_rfl) (Nat.lt_of_le_of_lt (by decide) hsz) (wanted_free rfl) ((cloneShift_any r.sa r.sn r.sc d.S HS.out.s HN.out.s _ (HR.out.below (below_thn HB1.out hq)).s).mono fun e w' g => by obtain ⟨a1, c1, h1, h2, h3⟩ := g; exact ⟨_, h1, a1, c1, rfl, h2, h3⟩) (by have e22 := n22; have f22 := n22.eval; unfold At at e22; simp [go_sem, e22]) ?_)
      intro v w' a' hR' hI' n23' hk
      obtain ⟨b2, d2, rfl, o4, hb⟩ := hR'
      refine ⟨fun _ => heap_lft hS hb, ?_⟩
      replace n22 := hk _ _ n22 rfl
      replace n20 := hk _ _ n20 rfl
      replace n24 := hk _ _ n24 rfl
      have n23 := n23'
      replace hI := hI'
      clear hk hI' n23'
      obtain ⟨act9, rfl⟩ : ∃ x, x = a' := ⟨_, rfl⟩
      replace hS : w'.heap[w.heap.size]? = some (.cells #[.slice a1 r.pn c1, .slice b1 r.wn d1, .slice r.ma r.mn r.mc, .slice r.sa r.sn r.sc, .slice r.na r.nn r.nc] 30) := heap_lft hS hb
      replace o4 := o4.base hqs
      replace o1 := o1.below hb
      replace o2 := o2.below hb
      replace o3 := o3.below hb
      replace hq := below_thn hq hb
      replace hqs := Nat.le_trans hqs hb.size
      clear hb
      obtain ⟨u2, rfl⟩ : ∃ y, y = w' := ⟨_, rfl⟩
      clear n22
      have hsz2 := HSZ.out
      have hS2 := heap_set hS 2 (.slice a2 r.mn c2)
      have hS3 := heap_set hS2 3 (.slice b2 r.sn d2)
      refine restF_only (k := 7) (by kernel_rfl) (op_store (k := 7) rfl rfl (wanted_free rfl) (by have e20 := n20; have f20 := n20.eval; unfold At at e20; have e24 := n24; have f24 := n24.eval; unfold At at e24; have k2 := heap_cell hS (j := 2) rfl; have f2 := heap_frozen hS 2; simp [go_sem, e20, e24, k2, f2]; try rfl) ⟨fun hf => absurd hf (by decide), ?_⟩)
      clear n24
      clear n20
      obtain ⟨y1, hy1⟩ : ∃ y, u2.setCell ⟨w.heap.size, 2, none⟩ (.slice a2 r.mn c2) = y := ⟨_, rfl⟩
      rw [hy1] at hS2 hS3 ⊢
      have hO1 : OwnNums y1 W.heap.size 49 4 a1 r.pn c1 d.P := by rw [← hy1]; exact o1.set (by dsimp only; omega) _
      have hO2 : OwnNums y1 W.heap.size 53 5 b1 r.wn d1 d.W := by rw [← hy1]; exact o2.set (by dsimp only; omega) _
      have hO3 : OwnNums y1 W.heap.size 3 1 a2 r.mn c2 d.M := by rw [← hy1]; exact o3.set (by dsimp only; omega) _
      have hO4 : OwnNums y1 W.heap.size 47 2 b2 r.sn d2 d.S := by rw [← hy1]; exact o4.set (by dsimp only; omega) _
      have hY1 : y1.heap[w.heap.size + 1]? = some (.cells #[.slice la ln lc] 26) := by rw [← hy1]; exact (setCell_other (by dsimp only; omega)).trans (heap_lft HY1.out hq)
      have hZ1 : y1.heap[w.heap.size + 1 + 1]? = some (.cells #[.slice none 0 0, .slice none 0 0, .slice none 0 0, .slice none 0 0, .slice none 0 0] 30) := by rw [← hy1]; exact (setCell_other (by dsimp only; omega)).trans (heap_lft HZ1.out hq)
      have hB1 : Below w.heap.size w y1 := by rw [← hy1]; exact (below_thn HB1.out hq).setCell (by dsimp only; omega) _
      have hs1 : W.heap.size ≤ y1.heap.size := by rw [← hy1]; simpa using hqs
      clear hy1 hS o1 o2 o3 o4
      refine restF_only (k := 8) (by kernel_rfl) (op_value (k := 8) (d := 25) (v := .pointer (some ⟨w.heap.size, 3, none⟩)) hI rfl rfl (by kernel_rfl) (Nat.lt_of_le_of_lt (by decide) hsz) (wanted_free rfl) (by have n2 := hI.at m2 (by kernel_rfl); have e2 := n2; have f2 := n2.eval; unfold At at e2; simp [go_sem, e2]; try rfl) (fun a' hI' n25' hk => ⟨fun hf => absurd hf (by decide), ?_⟩))
      replace n23 := hk _ _ n23 rfl
      have n25 := n25'
      replace hI := hI'
      clear hk hI' n25'
      obtain ⟨act9, rfl⟩ : ∃ x, x = a' := ⟨_, rfl⟩
      refine restF_only (k := 9) (by kernel_rfl) (op_store (k := 9) rfl rfl (wanted_free rfl) (by have e23 := n23; have f23 := n23.eval; unfold At at e23; have e25 := n25; have f25 := n25.eval; unfold At at e25; have k3 := heap_cell hS2 (j := 3) rfl; have f3 := heap_frozen hS2 3; simp [go_sem, e23, e25, k3, f3]; try rfl) ⟨fun hf => absurd hf (by decide), ?_⟩)
      refine restF_done (by kernel_rfl) ?_
      exact hfin _ _ hI ⟨a2, c2, b2, d2, hS3, hO1.set (by dsimp only; omega) _, hO2.set (by dsimp only; omega) _, hO3.set (by dsimp only; omega) _, hO4.set (by dsimp only; omega) _, (setCell_other (by dsimp only; omega)).trans hY1, (setCell_other (by dsimp only; omega)).trans hZ1, hB1.setCell (by dsimp only; omega) _, by simpa using hs1⟩
    case rest =>
      obtain ⟨U, rfl⟩ : ∃ x, x = wc := ⟨_, rfl⟩
      obtain ⟨a2, c2, b2, d2, hx, o1, o2, o3, o4, hy, hz, hb, hs⟩ := hcut
      have HX2 := Lib.hid hx
      have HY2 := Lib.hid hy
      have HZ2 := Lib.hid hz
      have HB2 := Lib.hid hb
      have HS2 := Lib.hid hs
      have HP2 := Lib.hid o1
      have HG2 := Lib.hid o2
      have HM2 := Lib.hid o3
      have HT2 := Lib.hid o4
      clear hx o1 o2 o3 o4 hy hz hb hs HX1 HY1 HZ1 HB1 HS1 HO1 HO2
      have x4 := heap_cell HX2.out (j := 4) rfl
      go_wp2_with fail
      refine (cloneTNote_any r.na r.nn r.nc (noteF d.N) (noteF_one _) HS.out.n HN.out.n _ (HR.out.below HB2.out).n.vals).mono ?_
      rintro e w3 ⟨a3, c3, rfl, ho, hb⟩
      have HO3 : Hid (OwnVals w3 W.heap.size 34 7 a3 r.nn c3 (noteF d.N)) := Lib.hid (ho.base HS2.out)
      have HX3 := Lib.hid (heap_lft HX2.out hb)
      have HY3 := Lib.hid (heap_lft HY2.out hb)
      have HZ3 := Lib.hid (heap_lft HZ2.out hb)
      have HB3 := Lib.hid (below_thn HB2.out hb)
      have HS3 : Hid (W.heap.size ≤ w3.heap.size) := Lib.hid (by have := HS2.out; have := hb.size; omega)
      have HP3 := Lib.hid (HP2.out.below hb)
      have HG3 := Lib.hid (HG2.out.below hb)
      have HM3 := Lib.hid (HM2.out.below hb)
      have HT3 := Lib.hid (HT2.out.below hb)
      clear ho hb x4 HX2 HY2 HZ2 HB2 HS2 HP2 HG2 HM2 HT2
      go_wp2_with fail
      refine (delete_any (w.heap.size + 1) (fun j => Pure.has ln L (d.N j).n) a3 r.nn c3 d.N W.heap.size (by have := HS.out.n; omega) _ HS3.out HO3.out (fun u j hj hb => struck_any (w.heap.size + 1) la ln lc L (d.N j) hl u ((hb.block _ (by have := HSZ.out; omega)).trans HY3.out) (HL.out.below (HB3.out.trans (hb.mono (by have := HSZ.out; omega)))))).mono ?_
      rintro e w4 ⟨rfl, ho, hb, hal⟩
      have hk : ∀ i, i < W.heap.size → w4.heap[i]? = w3.heap[i]? := fun i hi => hb.block i hi
      have HO4 := Lib.hid ho
      have HX4 := Lib.hid ((hk _ (by have := HSZ.out; omega)).trans HX3.out)
      have HZ4 := Lib.hid ((hk _ (by have := HSZ.out; omega)).trans HZ3.out)
      have HB4 : Hid (Below w.heap.size w w4) := Lib.hid (HB3.out.trans (hb.mono (by have := HSZ.out; omega)))
      have hne : ∀ x y : Addr, ∀ cu tt, a3 = some y → w3.heap[x.block]? = some (.cells cu tt) → tt ≠ 34 → x.block ≠ y.block := fun x y cu tt hy hx hn e => by
        rw [e] at hx
        exact HO3.out.ne hx (fun h => hn h.symm) y hy rfl
      have HP4 : Hid (OwnNums w4 W.heap.size 49 4 a1 r.pn c1 d.P) := Lib.hid (HP3.out.kept fun x hx => by
        obtain ⟨cu, hc⟩ := HP3.out.cells x hx
        exact hal _ (HP3.out.lt x hx).2 (fun y hy => hne x y _ _ hy hc (by decide)))
      have HG4 : Hid (OwnNums w4 W.heap.size 53 5 b1 r.wn d1 d.W) := Lib.hid (HG3.out.kept fun x hx => by
        obtain ⟨cu, hc⟩ := HG3.out.cells x hx
        exact hal _ (HG3.out.lt x hx).2 (fun y hy => hne x y _ _ hy hc (by decide)))
      have HM4 : Hid (OwnNums w4 W.heap.size 3 1 a2 r.mn c2 d.M) := Lib.hid (HM3.out.kept fun x hx => by
        obtain ⟨cu, hc⟩ := HM3.out.cells x hx
        exact hal _ (HM3.out.lt x hx).2 (fun y hy => hne x y _ _ hy hc (by decide)))
      have HT4 : Hid (OwnNums w4 W.heap.size 47 2 b2 r.sn d2 d.S) := Lib.hid (HT3.out.kept fun x hx => by
        obtain ⟨cu, hc⟩ := HT3.out.cells x hx
        exact hal _ (HT3.out.lt x hx).2 (fun y hy => hne x y _ _ hy hc (by decide)))
      clear ho hb hal hk hne HX3 HY3 HZ3 HB3 HS3 HP3 HG3 HM3 HT3 HO3
      obtain ⟨kn, hkn⟩ : ∃ k, Pure.keepN (fun j => Pure.has ln L (d.N j).n) r.nn = k := ⟨_, rfl⟩
      rw [hkn] at HO4 ⊢
      have HRO : Hid (OwnRoll w4 W.heap.size ⟨a1, r.pn, c1, b1, r.wn, d1, a2, r.mn, c2, b2, r.sn, d2, a3, kn, c3⟩ (Pure.struckD r d ln L)) := Lib.hid ⟨HP4.out, HG4.out, HM4.out, HT4.out, HO4.out⟩
      have HKN := Lib.hid hkn
      clear hkn HP4 HG4 HM4 HT4 HO4
      have x0 := heap_cell HX4.out (j := 0) rfl
      have x1 := heap_cell HX4.out (j := 1) rfl
      have x2 := heap_cell HX4.out (j := 2) rfl
      have x3 := heap_cell HX4.out (j := 3) rfl
      have x4 := heap_cell HX4.out (j := 4) rfl
      have fx := heap_frozen HX4.out 4
      have z0 := heap_cell HZ4.out (j := 0) rfl
      have fz0 := heap_frozen HZ4.out 0
      have z1 := heap_cell HZ4.out (j := 1) rfl
      have fz1 := heap_frozen HZ4.out 1
      have z2 := heap_cell HZ4.out (j := 2) rfl
      have fz2 := heap_frozen HZ4.out 2
      have z3 := heap_cell HZ4.out (j := 3) rfl
      have fz3 := heap_frozen HZ4.out 3
      have z4 := heap_cell HZ4.out (j := 4) rfl
      have fz4 := heap_frozen HZ4.out 4
      go_wp2_with fail
      refine bodyPost_ret (v := rollV ⟨a1, r.pn, c1, b1, r.wn, d1, a2, r.mn, c2, b2, r.sn, d2, a3, kn, c3⟩) (by simp [results, Tryz.results17, go_sem, z0, z1, z2, z3, z4]; try rfl) rfl ⟨_, rfl, ?_, rfl, rfl, rfl, rfl, HKN.out.symm, ?_⟩
      · have h2 := HSZ.out
        refine OwnRoll.base (base := W.heap.size) ?_ (by omega)
        repeat (first | with_reducible exact HRO.out | with_reducible refine OwnRoll.set ?_ (by simp; omega) _)
      · repeat (first | with_reducible exact HB4.out | with_reducible refine Below.setCell ?_ (by dsimp only; omega) _)

end Go.Proofs.YtijfdfplebbaaaaGreat
