/-
  Append onto a row of the call's own memory, whatever its cells; the closure of work, which calls itself; work.
-/
import Derived.Test.YteoakchcomodgaaWTurn
import Derived.Test.YteoakchcomodgaaRestF
namespace Go.Proofs.Yteoakchcomodgaa
open Go.RowKit

theorem cells_block {w : World} {base : Nat} {t : TypeId} {k : Nat} {a : Option Addr} {len cap : Nat} {cs : List Value} (h : w.ownsRow base t k (.slice a len cap) len cs) : (a = none ∧ len = 0 ∧ cap = 0) ∨ ∃ g, a = some ⟨g, 0, none⟩ ∧ base ≤ g ∧ g < w.heap.size := by
  obtain ⟨_, ⟨h1, h2⟩ | ⟨g, _, _, he, hb, hg, _⟩⟩ := h
  · simp only [Value.slice.injEq] at h1
    exact .inl ⟨h1.1, h2, h1.2.2⟩
  · simp only [Value.slice.injEq] at he
    exact .inr ⟨g, he.1, hb, (Array.getElem?_eq_some_iff.1 hg).1⟩
theorem cells_kept {w w' : World} {base : Nat} {t : TypeId} {k : Nat} {a : Option Addr} {len cap : Nat} {cs : List Value} (h : w.ownsRow base t k (.slice a len cap) len cs) (hk : ∀ x, a = some x → w'.heap[x.block]? = w.heap[x.block]?) : w'.ownsRow base t k (.slice a len cap) len cs := by
  obtain ⟨h0, h1 | ⟨g, cap', cur, he, hbase, hg, h2⟩⟩ := h
  · exact ⟨h0, .inl h1⟩
  · simp only [Value.slice.injEq] at he
    obtain ⟨rfl, _, rfl⟩ := he
    exact ⟨h0, .inr ⟨g, cap, cur, rfl, hbase, (hk _ rfl).trans hg, h2⟩⟩
theorem cells_below {w w' : World} {base : Nat} {t : TypeId} {k : Nat} {a : Option Addr} {len cap : Nat} {cs : List Value} (h : w.ownsRow base t k (.slice a len cap) len cs) (hb : Below w.heap.size w w') : w'.ownsRow base t k (.slice a len cap) len cs :=
  cells_kept h fun x hx => by
    obtain ⟨h1, _⟩ | ⟨g, h1, _, h3⟩ := cells_block h
    · rw [h1] at hx; cases hx
    · rw [h1] at hx
      cases hx
      exact hb.block _ h3
theorem cells_nil (w : World) (t : TypeId) (k base : Nat) : w.ownsRow base t k (.slice none 0 0) 0 [] := ⟨by simp, .inl ⟨rfl, rfl⟩⟩
theorem app_cells (w : World) (base : Nat) (T ST ty : TypeId) (k bytes : Nat) (i : TypeInfo) (z : Value) (hu : Try.prog.underlying ST = some (.slice T)) (hi : Try.prog.info? T = some i) (hz : i.zero = some z) (hz1 : i.size = k) (hz2 : i.bytes = bytes) (hzs : z.cells.size = k) (hk : 0 < k) (hb : bytes ≤ 64)
    {a : Option Addr} {len cap : Nat} {cs : List Value} (hown : w.ownsRow base T k (.slice a len cap) len cs) (ad : Addr) (m c : Nat) (ds : List Value) (hds : ds.length = m * k) (hs : ∀ (j : Nat) (u : Value), ds[j]? = some u → w.cell? (ad.add j) = some u) (h1 : ∀ u ∈ ds, u.oneCell' = true) (hl : len ≤ 400) (hm : m ≤ 100) (hbase : base ≤ w.heap.size) :
    ∃ a' cap' w', (Builtin.append_ #[ST, ST] ty #[.slice a len cap, .slice (some ad) m c]).run Try.prog w = .ok (.slice a' (len + m) cap') w' ∧ w'.ownsRow base T k (.slice a' (len + m) cap') (len + m) (cs ++ ds) ∧ Alone a w w' ∧ Below base w w' ∧ (∀ x', a' = some x' → a = some x' ∨ w.heap.size ≤ x'.block) := by
  obtain ⟨v', w', hr, h2, h3, h4, h5⟩ := run_append_own_at (P := Try.prog) (w := w) base ST ty T i z k bytes hu hi hz hz1 hz2 hzs hk (.slice a len cap) len cs hown ad m c ds hds hs h1 (by unfold maxLen; omega) (Nat.le_trans (Nat.mul_le_mul (show len + m ≤ 500 by omega) hb) (by decide)) hbase
  have hal : Alone a w w' := fun i hi hne => h3.block i hi (fun e => by
    cases a with
    | none => simp [Value.ownBlock] at e
    | some x => simp [Value.ownBlock] at e; exact hne x rfl e)
  have hbel : Below base w w' := (Below.refl _ _).grown h3 hbase (fun g hg => by
    obtain ⟨h1, _⟩ | ⟨g', h1, h6, _⟩ := cells_block hown
    · rw [h1] at hg; simp [Value.ownBlock] at hg
    · rw [h1] at hg; simp [Value.ownBlock] at hg; omega)
  have hsh : ∃ a' cap', v' = .slice a' (len + m) cap' := by
    obtain ⟨_, ⟨h6, h7⟩ | ⟨g, c', cur, h6, _⟩⟩ := h2
    · exact ⟨none, 0, by rw [h6, h7]⟩
    · exact ⟨_, _, h6⟩
  obtain ⟨a', cap', rfl⟩ := hsh
  refine ⟨a', cap', w', hr, h2, hal, hbel, fun x' hx => ?_⟩
  subst hx
  obtain ⟨h8, _⟩ | ⟨g, h8, _⟩ := cells_block h2
  · cases h8
  · cases h8
    rcases h5 with h5 | h5
    · left
      obtain ⟨h1, _⟩ | ⟨g', h1, _⟩ := cells_block hown
      · rw [h1] at h5; simp [Value.ownBlock] at h5
      · rw [h1] at h5 ⊢
        simp [Value.ownBlock] at h5
        rw [h5]
    · right
      simp [Value.ownBlock] at h5
      simp [h5]

theorem infoTurn : ∃ i, Try.prog.info? 84 = some i ∧ i.zero = some (turnV (fun _ => false)) ∧ i.size = 4 ∧ i.bytes = 4 := by
  have h : (Try.prog.info? 84).map (fun i => (i.zero, i.size, i.bytes)) = some (some (turnV (fun _ => false)), 4, 4) := by kernel_rfl
  obtain ⟨i, hi, h2⟩ := Option.map_eq_some_iff.1 h
  simp only [Prod.mk.injEq] at h2
  exact ⟨i, hi, h2.1, h2.2.1, h2.2.2⟩
abbrev chooseV (Bd Bt Bc : Nat) : Value := .func (.func 38) #[] #[.pointer (some ⟨Bd, 0, none⟩), .pointer (some ⟨Bt, 0, none⟩), .pointer (some ⟨Bc, 0, none⟩)]
abbrev dayPB (D : Nat) : Obj := .cells #[.pointer (some ⟨D, 0, none⟩)] 62
abbrev chooseB (Bd Bt Bc : Nat) : Obj := .cells #[chooseV Bd Bt Bc] 85
/-- What the closure of work finds in memory; m bounds how many turnings there are so far. -/
structure Chs (b0 b1 Bd D Bt Bc : Nat) (h : Int) (a : Option Addr) (n c : Nat) (w0 : World) (w : World) (m : Nat) : Prop where
  below : Below b0 w0 w
  bd : w.heap[Bd]? = some (dayPB D)
  day : ∃ l ln lc cs, w.heap[D]? = some (dayB h a n c l ln lc) ∧ w.ownsRow b1 84 4 (.slice l ln lc) ln cs ∧ ln ≤ m
  bt : ∃ T, w.heap[Bt]? = some (turnB T)
  bc : w.heap[Bc]? = some (chooseB Bd Bt Bc)
/-- Where the boxes lie. -/
structure Lie (b0 b1 Bd D Bt Bc : Nat) : Prop where
  d : b0 ≤ Bd ∧ Bd < b1
  e : b0 ≤ D ∧ D < b1
  t : b0 ≤ Bt ∧ Bt < b1
  c : b0 ≤ Bc ∧ Bc < b1
  n1 : Bd ≠ D
  n2 : Bd ≠ Bt
  n3 : Bd ≠ Bc
  n4 : D ≠ Bt
  n5 : D ≠ Bc
  n6 : Bt ≠ Bc
theorem Chs.more {b0 b1 Bd D Bt Bc : Nat} {h : Int} {a : Option Addr} {n c : Nat} {w0 w : World} {m m' : Nat} (H : Chs b0 b1 Bd D Bt Bc h a n c w0 w m) (hm : m ≤ m') : Chs b0 b1 Bd D Bt Bc h a n c w0 w m' := by
  obtain ⟨h1, h2, ⟨l, ln, lc, cs, h3, h4, h5⟩, h6, h7⟩ := H
  exact ⟨h1, h2, ⟨l, ln, lc, cs, h3, h4, by omega⟩, h6, h7⟩
/-- A store into the turning. -/
theorem Chs.set {b0 b1 Bd D Bt Bc : Nat} {h : Int} {a : Option Addr} {n c : Nat} {w0 w : World} {m : Nat} (H : Chs b0 b1 Bd D Bt Bc h a n c w0 w m) (hl : Lie b0 b1 Bd D Bt Bc) {q : Nat} (hq : q < 4) (v : Bool) : Chs b0 b1 Bd D Bt Bc h a n c w0 (w.setCell ⟨Bt, q, none⟩ (.bool v)) m := by
  obtain ⟨h1, h2, ⟨l, ln, lc, cs, h3, h4, h5⟩, ⟨T, h6⟩, h7⟩ := H
  refine ⟨h1.setCell hl.t.1 _, (setCell_other hl.n2).trans h2, ⟨l, ln, lc, cs, (setCell_other hl.n4).trans h3, cells_kept h4 (fun x hx => setCell_other ?_), h5⟩, ⟨_, turn_set h6 hq v⟩, (setCell_other (fun e => hl.n6 e.symm)).trans h7⟩
  obtain ⟨e, _⟩ | ⟨g, e, h8, _⟩ := cells_block h4
  · rw [e] at hx; cases hx
  · rw [e] at hx
    cases hx
    have := hl.t
    dsimp only
    omega

set_option maxHeartbeats 4000000 in
set_option maxRecDepth 100000 in
/-- One turning is kept. -/
theorem choose_one (b0 b1 Bd D Bt Bc : Nat) (h : Int) (a : Option Addr) (n c : Nat) (w0 : World) (hl : Lie b0 b1 Bd D Bt Bc) (f : Int) (w : World) (m : Nat) (hm : m ≤ 100) (hb1 : b1 ≤ w.heap.size) (H : Chs b0 b1 Bd D Bt Bc h a n c w0 w m) :
    Calls Try.prog 38 #[.int .i64 f, .int .i64 0, .pointer (some ⟨Bd, 0, none⟩), .pointer (some ⟨Bt, 0, none⟩), .pointer (some ⟨Bc, 0, none⟩)] w fun e w' => e = .returned (.tuple #[]) ∧ b1 ≤ w'.heap.size ∧ Chs b0 b1 Bd D Bt Bc h a n c w0 w' (m + 1) := by
  have HH := Lib.hid H
  have HL := Lib.hid hl
  clear H hl
  obtain ⟨l, ln, lc, cs, hd, ho, hln⟩ := HH.out.day
  obtain ⟨T, ht⟩ := HH.out.bt
  have HO := Lib.hid ho
  have HLN := Lib.hid hln
  have HB1 := Lib.hid hb1
  have HD := Lib.hid hd
  have HT := Lib.hid ht
  have HBD := Lib.hid HH.out.bd
  have HBC := Lib.hid HH.out.bc
  clear ho hln hb1 hd ht
  go_enter Try.func38, Try.ntmps38
  go_upto_region 1 with fail
  go_cut [] from 10 to 19 (fun wx => b1 ≤ wx.heap.size ∧ Chs b0 b1 Bd D Bt Bc h a n c w0 wx (m + 1))
  case first =>
    rename_i J K' hJ hK'
    generalize hA : (Act.mk _ _ : Act) = a0
    have m2 : At a0 2 (.pointer (some ⟨Bd, 0, none⟩)) := by rw [← hA]; rfl
    have m3 : At a0 3 (.pointer (some ⟨Bt, 0, none⟩)) := by rw [← hA]; rfl
    have hsz : 19 < a0.tmps.size := by rw [← hA]; exact of_decide_eq_true (by kernel_rfl)
    have hfin : ∀ a' w', Kept (List.range' 10 10) a0 a' → (b1 ≤ w'.heap.size ∧ Chs b0 b1 Bd D Bt Bc h a n c w0 w' (m + 1)) → K' a' w' := by
      intro a' w' hI hL
      refine hK' _ _ (Met.intro (hJ _ _ ⟨a'.tmps.getD 10 undef, a'.tmps.getD 11 undef, a'.tmps.getD 12 undef, a'.tmps.getD 13 undef, a'.tmps.getD 14 undef, a'.tmps.getD 15 undef, a'.tmps.getD 16 undef, a'.tmps.getD 17 undef, a'.tmps.getD 18 undef, a'.tmps.getD 19 undef, hL, hI.eq.trans ?_⟩))
      rw [← hA]
      kernel_rfl
    have hI : Kept (List.range' 10 10) a0 a0 := Kept.refl _ _
    clear hA hJ hK' J
    refine with_pan (fun d _ _ _ _ h => by cases d <;> exact h) ?_
    intro hpan
    refine wp_region_restF (fun j => j == 10) (fun z => z.heap[Bd]? = some (dayPB D) ∧ z.heap[D]? = some (dayB h a n c l ln lc) ∧ z.heap[Bt]? = some (turnB T)) (by kernel_rfl) ?_
    obtain ⟨wz, hwz⟩ : ∃ x, w.drew = x := ⟨_, rfl⟩
    change RestF _ _ _ _ _ _ _ _ (w.drew)
    rw [hwz]
    have hq : Below w.heap.size w wz := by rw [← hwz]; exact (Below.refl _ _).drew
    clear hwz
    have hS : wz.heap[Bd]? = some (dayPB D) ∧ wz.heap[D]? = some (dayB h a n c l ln lc) ∧ wz.heap[Bt]? = some (turnB T) := ⟨heap_lft HBD.out hq, heap_lft HD.out hq, heap_lft HT.out hq⟩
    refine restF_take (k := 0) (d := 10) (v := .pointer (some ⟨D, 0, none⟩)) hI rfl rfl (by kernel_rfl) (Nat.lt_of_le_of_lt (by decide) hsz) (by kernel_rfl) hpan (by kernel_rfl) hS (wanted_free rfl) (fun z hz => by have n2 := hI.at m2 (by kernel_rfl); have e2 := n2; have f2 := n2.eval; unfold At at e2; have k0 := heap_cell hz.1 (j := 0) rfl; simp [go_sem, e2, k0]) (fun a' hI' n10' hk => ?_)
    have n10 := n10'
    replace hI := hI'
    clear hk hI' n10'
    obtain ⟨act9, rfl⟩ : ∃ x, x = a' := ⟨_, rfl⟩
    refine restF_take (k := 1) (d := 11) (v := .pointer (some ⟨D, 0, none⟩)) hI rfl rfl (by kernel_rfl) (Nat.lt_of_le_of_lt (by decide) hsz) (by kernel_rfl) hpan (by kernel_rfl) hS (wanted_free rfl) (fun z hz => by have n2 := hI.at m2 (by kernel_rfl); have e2 := n2; have f2 := n2.eval; unfold At at e2; have k0 := heap_cell hz.1 (j := 0) rfl; simp [go_sem, e2, k0]) (fun a' hI' n11' hk => ?_)
    replace n10 := hk _ _ n10 rfl
    have n11 := n11'
    replace hI := hI'
    clear hk hI' n11'
    obtain ⟨act9, rfl⟩ : ∃ x, x = a' := ⟨_, rfl⟩
    refine restF_take (k := 2) (d := 12) (v := .pointer (some ⟨D, 0, none⟩)) hI rfl rfl (by kernel_rfl) (Nat.lt_of_le_of_lt (by decide) hsz) (by kernel_rfl) hpan (by kernel_rfl) hS (wanted_free rfl) (fun z hz => by have e11 := n11; have f11 := n11.eval; unfold At at e11; simp [go_sem, e11]) (fun a' hI' n12' hk => ?_)
    replace n10 := hk _ _ n10 rfl
    replace n11 := hk _ _ n11 rfl
    have n12 := n12'
    replace hI := hI'
    clear hk hI' n12'
    obtain ⟨act9, rfl⟩ : ∃ x, x = a' := ⟨_, rfl⟩
    clear n11
    refine restF_take (k := 3) (d := 13) (v := .pointer (some ⟨D, 2, none⟩)) hI rfl rfl (by kernel_rfl) (Nat.lt_of_le_of_lt (by decide) hsz) (by kernel_rfl) hpan (by kernel_rfl) hS (wanted_free rfl) (fun z hz => by have e12 := n12; have f12 := n12.eval; unfold At at e12; simp [go_sem, e12]) (fun a' hI' n13' hk => ?_)
    replace n10 := hk _ _ n10 rfl
    replace n12 := hk _ _ n12 rfl
    have n13 := n13'
    replace hI := hI'
    clear hk hI' n13'
    obtain ⟨act9, rfl⟩ : ∃ x, x = a' := ⟨_, rfl⟩
    clear n12
    refine restF_take (k := 4) (d := 14) (v := .slice l ln lc) hI rfl rfl (by kernel_rfl) (Nat.lt_of_le_of_lt (by decide) hsz) (by kernel_rfl) hpan (by kernel_rfl) hS (wanted_free rfl) (fun z hz => by have e13 := n13; have f13 := n13.eval; unfold At at e13; have k2 := heap_cell hz.2.1 (j := 2) rfl; simp [go_sem, e13, k2]) (fun a' hI' n14' hk => ?_)
    replace n10 := hk _ _ n10 rfl
    replace n13 := hk _ _ n13 rfl
    have n14 := n14'
    replace hI := hI'
    clear hk hI' n14'
    obtain ⟨act9, rfl⟩ : ∃ x, x = a' := ⟨_, rfl⟩
    clear n13
    refine restF_take (k := 5) (d := 15) (v := turnV T) hI rfl rfl (by kernel_rfl) (Nat.lt_of_le_of_lt (by decide) hsz) (by kernel_rfl) hpan (by kernel_rfl) hS (wanted_free rfl) (fun z hz => by have n3 := hI.at m3 (by kernel_rfl); have e3 := n3; have f3 := n3.eval; unfold At at e3; have k0 := heap_cell hz.2.2 (j := 0) rfl; have k1 := heap_cell hz.2.2 (j := 1) rfl; have k2 := heap_cell hz.2.2 (j := 2) rfl; have k3 := heap_cell hz.2.2 (j := 3) rfl; simp [go_sem, e3, k0, k1, k2, k3]) (fun a' hI' n15' hk => ?_)
    replace n10 := hk _ _ n10 rfl
    replace n14 := hk _ _ n14 rfl
    have n15 := n15'
    replace hI := hI'
    clear hk hI' n15'
    obtain ⟨act9, rfl⟩ : ∃ x, x = a' := ⟨_, rfl⟩
    have hz1 := below_new wz (.cells #[.bool (T 0), .bool (T 1), .bool (T 2), .bool (T 3)] 84)
    have hs1 : (wz.alloc (turnB T)).heap[Bd]? = some (dayPB D) ∧ (wz.alloc (turnB T)).heap[D]? = some (dayB h a n c l ln lc) ∧ (wz.alloc (turnB T)).heap[Bt]? = some (turnB T) := ⟨heap_lft hS.1 hz1, heap_lft hS.2.1 hz1, heap_lft hS.2.2 hz1⟩
    have hx1 : (wz.alloc (turnB T)).heap[wz.heap.size]? = some (turnB T) := heap_top _ _ rfl
    have hq1 := below_thn hq hz1
    obtain ⟨u1, hu1⟩ : ∃ x, wz.alloc (turnB T) = x := ⟨_, rfl⟩
    rw [hu1] at hs1 hx1 hq1
    refine restF_only (k := 6) (by kernel_rfl) (op_value (k := 6) (d := 16) (v := .slice (some ⟨wz.heap.size, 0, none⟩) 1 1) hI rfl rfl (by kernel_rfl) (Nat.lt_of_le_of_lt (by decide) hsz) (wanted_free rfl) (by have e15 := n15; have f15 := n15.eval; unfold At at e15; simp [go_sem, e15]; try rfl) (fun a' hI' n16' hk => ⟨fun _ => by rw [hu1]; exact hs1, ?_⟩))
    replace n10 := hk _ _ n10 rfl
    replace n14 := hk _ _ n14 rfl
    replace n15 := hk _ _ n15 rfl
    have n16 := n16'
    replace hI := hI'
    clear hk hI' n16'
    obtain ⟨act9, rfl⟩ : ∃ x, x = a' := ⟨_, rfl⟩
    clear n15
    try rw [hu1]
    clear hu1 hz1 hS
    replace hS := hs1
    clear hs1
    obtain ⟨i0, hi0, hz0, hz1, hz2⟩ := infoTurn
    obtain ⟨a4, c4, Z, hr, ho4, hal, hbe, _⟩ := app_cells u1 b1 84 80 80 4 4 i0 _ Try.underlying80 hi0 hz0 hz1 hz2 rfl (by decide) (by decide) (cells_below HO.out hq1) ⟨wz.heap.size, 0, none⟩ 1 1 [.bool (T 0), .bool (T 1), .bool (T 2), .bool (T 3)] rfl (fun j u hj => by
      have h4 : j = 0 ∨ j = 1 ∨ j = 2 ∨ j = 3 := by
        have := (List.getElem?_eq_some_iff.1 hj).1
        simp at this
        omega
      rw [Go.WideShapes.add_plain]
      rcases h4 with rfl | rfl | rfl | rfl <;> (simp at hj; subst hj; exact heap_cell hx1 rfl)) (by simp [Value.oneCell']) (by have := HLN.out; omega) (by omega) (by have h1 := HB1.out; have h2 := hq1.size; omega)
    have hne : ∀ i, i < b1 → ∀ x, l = some x → i ≠ x.block := fun i hi x hx => by
      obtain ⟨e, _⟩ | ⟨g, e, h8, _⟩ := cells_block HO.out
      · rw [e] at hx; cases hx
      · rw [e] at hx
        cases hx
        dsimp only
        omega
    have hsz1 : b1 ≤ u1.heap.size := by have h1 := HB1.out; have h2 := hq1.size; omega
    have hk : ∀ i, i < b1 → Z.heap[i]? = u1.heap[i]? := fun i hi => hal i (by omega) (hne i hi)
    have hsZ : Z.heap[Bd]? = some (dayPB D) ∧ Z.heap[D]? = some (dayB h a n c l ln lc) ∧ Z.heap[Bt]? = some (turnB T) := ⟨(hk _ HL.out.d.2).trans hS.1, (hk _ HL.out.e.2).trans hS.2.1, (hk _ HL.out.t.2).trans hS.2.2⟩
    have hbZ : Below b0 w0 Z := ((HH.out.below.trans (hq1.mono (by have h1 := HL.out.d; have h2 := HB1.out; omega))).trans (hbe.mono (by have h1 := HL.out.d; omega)))
    have hcZ : Z.heap[Bc]? = some (chooseB Bd Bt Bc) := (hk _ HL.out.c.2).trans (heap_lft HBC.out hq1)
    have hsz2 : b1 ≤ Z.heap.size := by have := hbe.size; omega
    refine restF_only (k := 7) (by kernel_rfl) (op_value (k := 7) (d := 17) (v := .slice a4 (ln + 1) c4) hI rfl rfl (by kernel_rfl) (Nat.lt_of_le_of_lt (by decide) hsz) (wanted_free rfl) (exec_append (.tmp 14) (.tmp 16) 80 80 rfl n14.eval n16.eval (hr)) (fun a' hI' n17' hk => ⟨fun _ => hsZ, ?_⟩))
    replace n10 := hk _ _ n10 rfl
    replace n14 := hk _ _ n14 rfl
    replace n16 := hk _ _ n16 rfl
    have n17 := n17'
    replace hI := hI'
    clear hk hI' n17'
    obtain ⟨act9, rfl⟩ : ∃ x, x = a' := ⟨_, rfl⟩
    clear n14
    clear n16
    clear hS
    replace hS := hsZ
    refine restF_only (k := 8) (by kernel_rfl) (op_value (k := 8) (d := 18) (v := .pointer (some ⟨D, 0, none⟩)) hI rfl rfl (by kernel_rfl) (Nat.lt_of_le_of_lt (by decide) hsz) (wanted_free rfl) (by have e10 := n10; have f10 := n10.eval; unfold At at e10; simp [go_sem, e10]; try rfl) (fun a' hI' n18' hk => ⟨fun _ => hS, ?_⟩))
    replace n10 := hk _ _ n10 rfl
    replace n17 := hk _ _ n17 rfl
    have n18 := n18'
    replace hI := hI'
    clear hk hI' n18'
    obtain ⟨act9, rfl⟩ : ∃ x, x = a' := ⟨_, rfl⟩
    clear n10
    refine restF_only (k := 9) (by kernel_rfl) (op_value (k := 9) (d := 19) (v := .pointer (some ⟨D, 2, none⟩)) hI rfl rfl (by kernel_rfl) (Nat.lt_of_le_of_lt (by decide) hsz) (wanted_free rfl) (by have e18 := n18; have f18 := n18.eval; unfold At at e18; simp [go_sem, e18]; try rfl) (fun a' hI' n19' hk => ⟨fun _ => hS, ?_⟩))
    replace n17 := hk _ _ n17 rfl
    replace n18 := hk _ _ n18 rfl
    have n19 := n19'
    replace hI := hI'
    clear hk hI' n19'
    obtain ⟨act9, rfl⟩ : ∃ x, x = a' := ⟨_, rfl⟩
    clear n18
    obtain ⟨Y, hY⟩ : ∃ Y, Z.setCell ⟨D, 2, none⟩ (.slice a4 (ln + 1) c4) = Y := ⟨_, rfl⟩
    have hF : Chs b0 b1 Bd D Bt Bc h a n c w0 Y (m + 1) := by
      rw [← hY]
      refine ⟨hbZ.setCell HL.out.e.1 _, (setCell_other HL.out.n1).trans hS.1, ⟨a4, ln + 1, c4, _, heap_set hS.2.1 2 _, cells_kept ho4 (fun x hx => setCell_other ?_), by have := HLN.out; omega⟩, ⟨T, (setCell_other (fun e => HL.out.n4 e.symm)).trans hS.2.2⟩, (setCell_other (fun e => HL.out.n5 e.symm)).trans hcZ⟩
      obtain ⟨e, _⟩ | ⟨g, e, h8, _⟩ := cells_block ho4
      · rw [e] at hx; cases hx
      · rw [e] at hx
        cases hx
        have := HL.out.e
        dsimp only
        omega
    have hszY : b1 ≤ Y.heap.size := by rw [← hY]; simpa using hsz2
    refine restF_only (k := 10) (by kernel_rfl) (op_store (k := 10) rfl rfl (wanted_free rfl) (by have e17 := n17; have f17 := n17.eval; unfold At at e17; have e19 := n19; have f19 := n19.eval; unfold At at e19; have k2 := heap_cell hS.2.1 (j := 2) rfl; have f2 := heap_frozen hS.2.1 2; simp [go_sem, e17, e19, k2, f2]; try rfl) ⟨(fun hf => by cases hf), ?_⟩)
    refine restF_done (by kernel_rfl) ?_
    rw [hY]
    exact hfin _ _ hI ⟨hszY, hF⟩
  case rest =>
    obtain ⟨U, rfl⟩ : ∃ x, x = wc := ⟨_, rfl⟩
    obtain ⟨h1, h2⟩ := hcut
    have H1 := Lib.hid h1
    have H2 := Lib.hid h2
    clear h1 h2
    go_wp2_with fail
    exact bodyPost_ret (results_none rfl _ _ _) rfl ⟨rfl, H1.out, H2.out⟩

theorem pow_split {n i : Nat} (h : i < n) : 2 ^ (n - i) = 2 ^ (n - (i + 1)) + 2 ^ (n - (i + 1)) := by
  rw [show n - i = n - (i + 1) + 1 by omega, Nat.pow_succ]
  omega
theorem room1 {m A B x : Nat} (h1 : B = x + x) (h2 : B ≤ A) (h3 : m + A ≤ 100) : m + A - B + x ≤ 100 := by omega
theorem room2 {m A B x : Nat} (h1 : B = x + x) (h2 : B ≤ A) : m + A - B + x ≤ m + A - x := by omega
theorem pow_le {n i r : Nat} (h : n - i ≤ r) : 2 ^ (n - i) ≤ 2 ^ r := Nat.pow_le_pow_right (by decide) h
set_option maxHeartbeats 4000000 in
set_option maxRecDepth 100000 in
theorem choose_any (b0 b1 Bd D Bt Bc : Nat) (h : Int) (a : Option Addr) (n c : Nat) (w0 : World) (hl : Lie b0 b1 Bd D Bt Bc) (hn : n ≤ 4) : ∀ (r f : Nat), f + r = n → ∀ (k : Int), 0 ≤ k → k ≤ 10 → ∀ (w : World) (m : Nat), m + 2 ^ r ≤ 100 → b1 ≤ w.heap.size → Chs b0 b1 Bd D Bt Bc h a n c w0 w m →
    Calls Try.prog 38 #[.int .i64 f, .int .i64 k, .pointer (some ⟨Bd, 0, none⟩), .pointer (some ⟨Bt, 0, none⟩), .pointer (some ⟨Bc, 0, none⟩)] w fun e w' => e = .returned (.tuple #[]) ∧ b1 ≤ w'.heap.size ∧ Chs b0 b1 Bd D Bt Bc h a n c w0 w' (m + 2 ^ r) := by
  intro r
  induction r using Nat.strongRecOn with
  | _ r ih =>
  intro f hf k hk0 hk1 w m hm hb1 H
  have hp1 : 1 ≤ 2 ^ r := Nat.one_le_two_pow
  by_cases h0 : k = 0
  · subst h0
    exact (choose_one b0 b1 Bd D Bt Bc h a n c w0 hl f w m (by omega) hb1 H).mono fun e w' g => ⟨g.1, g.2.1, g.2.2.more (by omega)⟩
  have hne : (k == 0) = false := by simpa using h0
  have hw2 : IntKind.i64.wrap (k - 1) = k - 1 := IntWalk.i64_in _ (by omega)
  have IH := Lib.hid ih
  have HL := Lib.hid hl
  have HM := Lib.hid hm
  have HF := Lib.hid hf
  have HK : Hid (1 ≤ k ∧ k ≤ 10) := Lib.hid (by omega)
  have HH := Lib.hid H
  have HB1 := Lib.hid hb1
  clear ih hl hm hf hk0 hk1 H hb1 hp1 h0
  go_enter Try.func38, Try.ntmps38
  go_wp2_with fail
  go_loopw [7] (fun ix wr => ∃ i : Nat, f ≤ i ∧ i ≤ n ∧ ix = .int .i64 i ∧ b1 ≤ wr.heap.size ∧ Chs b0 b1 Bd D Bt Bc h a n c w0 wr (m + 2 ^ r - 2 ^ (n - i))) (fun ix _ => n - (intOf ix).toNat)
  case atStart => exact ⟨f, Nat.le_refl _, by have := HF.out; omega, rfl, HB1.out, by have h1 := HH.out; rw [show n - f = r by have := HF.out; omega, Nat.add_sub_cancel]; exact h1⟩
  case round =>
    obtain ⟨i, hfi, hi, rfl, hb, hc⟩ := hrel
    have HFI := Lib.hid hfi
    have HB := Lib.hid hb
    have HC := Lib.hid hc
    clear hfi hb hc
    obtain ⟨l, ln, lc, cs, hd, _, _⟩ := HC.out.day
    obtain ⟨T, ht⟩ := HC.out.bt
    have hbd := HC.out.bd
    have p0 := heap_cell hbd (j := 0) rfl
    have d1 := heap_cell hd (j := 1) rfl
    by_cases hlt : i < n
    · have HI := Lib.hid hlt
      have n1 : (i : Int) < 4 := by omega
      have n2 : (i : Int) < n := by omega
      have t1 := turn_cell ht (show i < 4 by omega)
      have f1 := heap_frozen ht i
      have hw1 : IntKind.i64.wrap ((i : Int) + 1) = ((i + 1 : Nat) : Int) := by rw [IntWalk.i64_in _ (by omega)]; omega
      clear hd ht hbd hlt
      go_upto_region 6 with fail
      obtain ⟨V, hV⟩ : ∃ V, wr.setCell ⟨Bt, i, none⟩ (.bool true) = V := ⟨_, rfl⟩
      have HCV : Hid (Chs b0 b1 Bd D Bt Bc h a n c w0 V (m + 2 ^ r - 2 ^ (n - i))) := Lib.hid (by rw [← hV]; exact HC.out.set HL.out (by have := HI.out; omega) true)
      have HBV : Hid (b1 ≤ V.heap.size) := Lib.hid (by rw [← hV]; simpa using HB.out)
      try rw [hV]
      clear hV p0 d1 t1 f1
      have c0 := heap_cell HCV.out.bc (j := 0) rfl
      go_wp2_with fail
      have hps := pow_split HI.out
      have hpl : 2 ^ (n - i) ≤ 2 ^ r := pow_le (by have h1 := HF.out; have h2 := HFI.out; omega)
      refine (IH.out (n - (i + 1)) (by have h1 := HF.out; have h2 := HFI.out; have h3 := HI.out; omega) (i + 1) (by have h3 := HI.out; omega) (k - 1) (by have := HK.out; omega) (by have := HK.out; omega) V (m + 2 ^ r - 2 ^ (n - i)) (room1 hps hpl HM.out) HBV.out HCV.out).mono ?_
      rintro e Z ⟨rfl, hbz, hcz⟩
      have HBZ := Lib.hid hbz
      have HCZ : Hid (Chs b0 b1 Bd D Bt Bc h a n c w0 Z (m + 2 ^ r - 2 ^ (n - (i + 1)))) := Lib.hid (hcz.more (room2 hps hpl))
      clear hbz hcz hps hpl c0
      obtain ⟨T', ht'⟩ := HCZ.out.bt
      have t1 := turn_cell ht' (show i < 4 by have := HI.out; omega)
      have f1 := heap_frozen ht' i
      clear ht'
      go_wp2_with fail
      go_roundw
      case rel => exact ⟨i + 1, by have := HFI.out; omega, HI.out, by go_num, by simpa using HBZ.out, HCZ.out.set HL.out (by have := HI.out; omega) false⟩
      case measure => have := HI.out; simp [intOf]; omega
    · obtain rfl : i = n := by omega
      clear hd ht hbd
      go_wp2_with fail
      go_end0
      exact ⟨rfl, HB.out, HC.out.more (Nat.sub_le _ _)⟩

/-- What work gives. -/
def WorkOut (h : Int) (a : Option Addr) (n c : Nat) (w : World) (e : Ending) (w' : World) : Prop :=
  ∃ B l ln lc, e = .returned (.pointer (some ⟨B, 0, none⟩)) ∧ w'.heap[B]? = some (dayB h a n c l ln lc) ∧ Below w.heap.size w w'
set_option maxHeartbeats 4000000 in
set_option maxRecDepth 100000 in
theorem work_any (h : Int) (a : Option Addr) (n c : Nat) (hn : n ≤ 4) (h0 : 0 ≤ h) (h3 : h ≤ 3) (w : World) :
    Calls Try.prog 24 #[watchV h a n c] w (WorkOut h a n c w) := by
  obtain ⟨W, hW⟩ : ∃ W, ((w.alloc (watchB h a n c)).alloc (dayB h a n c none 0 0)).alloc (dayPB (w.heap.size + 1)) = W := ⟨_, rfl⟩
  have HB : Hid (Below w.heap.size w W) := Lib.hid (by rw [← hW]; exact ((below_new _ _).alloc (by simp) _).alloc (by simp; omega) _)
  have HD : Hid (W.heap[w.heap.size + 1]? = some (dayB h a n c none 0 0)) := Lib.hid (by rw [← hW]; exact heap_up (heap_top _ _ (by simp)) _)
  have HP : Hid (W.heap[w.heap.size + 1 + 1]? = some (dayPB (w.heap.size + 1))) := Lib.hid (by rw [← hW]; exact heap_top _ _ (by simp))
  have HSZ : Hid (W.heap.size = w.heap.size + 3) := Lib.hid (by rw [← hW]; simp)
  go_enter Try.func24, Try.ntmps24
  go_upto_region 2 with fail
  try rw [hW]
  clear hW
  go_upto_region 4 with fail
  obtain ⟨V, hV⟩ : ∃ V, (W.alloc (turnB (fun _ => false))).alloc (.cells #[.nilFunc] 85) = V := ⟨_, rfl⟩
  have hbv : Below W.heap.size W V := by rw [← hV]; exact (below_new _ _).alloc (by simp) _
  have HDV := Lib.hid (heap_lft HD.out hbv)
  have HPV := Lib.hid (heap_lft HP.out hbv)
  have HBV := Lib.hid (below_thn HB.out hbv)
  have HTV : Hid (V.heap[W.heap.size]? = some (turnB (fun _ => false))) := Lib.hid (by rw [← hV]; exact heap_up (heap_top _ _ rfl) _)
  have HCV : Hid (V.heap[W.heap.size + 1]? = some (.cells #[.nilFunc] 85)) := Lib.hid (by rw [← hV]; exact heap_top _ _ (by simp))
  have HSV : Hid (V.heap.size = w.heap.size + 5) := Lib.hid (by have := HSZ.out; rw [← hV]; simp; omega)
  try rw [hV]
  clear hV hbv
  have c0 := heap_cell HCV.out (j := 0) rfl
  have f0 := heap_frozen HCV.out 0
  go_upto_region 5 with fail
  obtain ⟨U, hU⟩ : ∃ U, V.setCell ⟨W.heap.size + 1, 0, none⟩ (chooseV (w.heap.size + 1 + 1) W.heap.size (W.heap.size + 1)) = U := ⟨_, rfl⟩
  have hsz := HSZ.out
  have HCH : Hid (Chs w.heap.size (w.heap.size + 5) (w.heap.size + 1 + 1) (w.heap.size + 1) W.heap.size (W.heap.size + 1) h a n c w U 0) := Lib.hid (by
    rw [← hU]
    exact ⟨HBV.out.setCell (by dsimp only; omega) _, (setCell_other (by dsimp only; omega)).trans HPV.out, ⟨none, 0, 0, [], (setCell_other (by dsimp only; omega)).trans HDV.out, cells_nil _ _ _ _, Nat.le_refl _⟩, ⟨_, (setCell_other (by dsimp only; omega)).trans HTV.out⟩, heap_set HCV.out 0 _⟩)
  have HLI : Hid (Lie w.heap.size (w.heap.size + 5) (w.heap.size + 1 + 1) (w.heap.size + 1) W.heap.size (W.heap.size + 1)) := Lib.hid (by constructor <;> omega)
  have HSU : Hid (w.heap.size + 5 ≤ U.heap.size) := Lib.hid (by have := HSV.out; rw [← hU]; simp; omega)
  try rw [hU]
  clear hU c0 f0 hsz
  have p0 := heap_cell HCH.out.bd (j := 0) rfl
  obtain ⟨l, ln, lc, cs, hd, _, _⟩ := HCH.out.day
  have d0 := heap_cell hd (j := 0) rfl
  clear hd
  have hw1 : IntKind.i64.wrap (h + 1) = h + 1 := IntWalk.i64_in _ (by omega)
  go_wp2_with fail
  clear p0 d0 hw1
  go_loopw [6, 17] (fun _ ix wr => ∃ k : Nat, (k : Int) ≤ h + 1 ∧ ix = .int .i64 k ∧ w.heap.size + 5 ≤ wr.heap.size ∧ Chs w.heap.size (w.heap.size + 5) (w.heap.size + 1 + 1) (w.heap.size + 1) W.heap.size (W.heap.size + 1) h a n c w wr (k * 16)) (fun _ ix _ => (h + 1).toNat - (intOf ix).toNat)
  case atStart => exact ⟨0, by omega, rfl, HSU.out, HCH.out⟩
  case round =>
    obtain ⟨k, hk, rfl, hb, hc⟩ := hrel
    have HB := Lib.hid hb
    have HC := Lib.hid hc
    clear hb hc
    by_cases hlt : (k : Int) < h + 1
    · have HK := Lib.hid hlt
      have c0 := heap_cell HC.out.bc (j := 0) rfl
      go_wp2_with fail
      clear c0
      refine (choose_any _ _ _ _ _ _ h a n c w HLI.out hn n 0 (by omega) k (by omega) (by omega) _ (k * 16) (by have : 2 ^ n ≤ 2 ^ 4 := Nat.pow_le_pow_right (by decide) hn; omega) HB.out HC.out).mono ?_
      rintro e Z ⟨rfl, hbz, hcz⟩
      have HBZ := Lib.hid hbz
      have HCZ : Hid (Chs w.heap.size (w.heap.size + 5) (w.heap.size + 1 + 1) (w.heap.size + 1) W.heap.size (W.heap.size + 1) h a n c w Z ((k + 1) * 16)) := Lib.hid (hcz.more (by have : 2 ^ n ≤ 2 ^ 4 := Nat.pow_le_pow_right (by decide) hn; omega))
      clear hbz hcz
      go_wp2_with fail
      go_roundw
      case rel => exact ⟨k + 1, by have := HK.out; omega, by go_num, HBZ.out, HCZ.out⟩
      case measure => have := HK.out; simp [intOf]; omega
    · have p0 := heap_cell HC.out.bd (j := 0) rfl
      obtain ⟨l, ln, lc, cs, hd, _, _⟩ := HC.out.day
      have HD := Lib.hid hd
      clear hd
      go_wp2_with fail
      go_ret
      exact ⟨_, l, ln, lc, rfl, HD.out, HC.out.below⟩

end Go.Proofs.Yteoakchcomodgaa
