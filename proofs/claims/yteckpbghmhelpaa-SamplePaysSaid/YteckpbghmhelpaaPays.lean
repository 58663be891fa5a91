/-
  SamplePays: the walk of the law.
-/
import Derived.Test.YteckpbghmhelpaaTells
import Derived.Test.YteckpbghmhelpaaRFair
import Derived.Test.YteckpbghmhelpaaAward
import Derived.Test.YteckpbghmhelpaaSame
import Derived.ArgAppend
namespace Go.Proofs.Yteckpbghmhelpaa
open Go.RowKit Go.Shelf

theorem alike_off (len : Nat) (F P : Nat → Int) (o f : Int) (hl : len ≤ 12) : ∃ x k,
    (∀ a cap u, TermsAt u a len F P → Calls Try.prog 46 #[.slice a len cap, .agg #[.int .i64 o, .int .i64 f]] u fun e u' => e = .returned (.tuple #[.int .i64 x, .int .i64 k]) ∧ Below u.heap.size u u') ∧
    (∀ a cap u, TermsAt u a len F P → Calls Try.prog 47 #[.slice a len cap, .agg #[.int .i64 o, .int .i64 f]] u fun e u' => e = .returned (.tuple #[.int .i64 x, .int .i64 k]) ∧ Below u.heap.size u u') :=
  ⟨_, _, fun a cap u h => (offTop_any a len cap F P o f (by omega) u h).mono fun e u' h => ⟨by rw [h.1, Pure.resI_sel], h.2⟩, fun a cap u h => (rOffTop_any a len cap F P o f (by omega) u h).mono fun e u' h => ⟨by rw [h.1, Pure.resI_sel], h.2⟩⟩
theorem alike_fair (b lo hi d o : Int) (len : Nat) (F P : Nat → Int) (hl : len ≤ 12) : ∃ x y k,
    (∀ a cap u, TermsAt u a len F P → Calls Try.prog 48 #[cargoV b lo hi, .int .i64 d, .int .i64 o, .slice a len cap] u fun e u' => e = .returned (.tuple #[.agg #[.int .i64 x, .int .i64 y], .int .i64 k]) ∧ Below u.heap.size u u') ∧
    (∀ a cap u, TermsAt u a len F P → Calls Try.prog 49 #[cargoV b lo hi, .int .i64 d, .int .i64 o, .slice a len cap] u fun e u' => e = .returned (.tuple #[.agg #[.int .i64 x, .int .i64 y], .int .i64 k]) ∧ Below u.heap.size u u') :=
  ⟨_, _, _, fun a cap u h => (fair_any b lo hi d o a len cap F P (by omega) u h).mono fun e u' h => ⟨by rw [h.1, Pure.res2_part], h.2⟩, fun a cap u h => (rFair_any b lo hi d o a len cap F P (by omega) u h).mono fun e u' h => ⟨by rw [h.1, Pure.res2_part], h.2⟩⟩
theorem alike_award (a b c : Int) : ∃ x k,
    (∀ u, Calls Try.prog 50 #[.int .i64 a, .int .i64 b, .int .i64 c] u fun e u' => e = .returned (.tuple #[.int .i64 x, .int .i64 k]) ∧ Below u.heap.size u u') ∧
    (∀ u, Calls Try.prog 51 #[.int .i64 a, .int .i64 b, .int .i64 c] u fun e u' => e = .returned (.tuple #[.int .i64 x, .int .i64 k]) ∧ u = u') :=
  ⟨_, _, fun u => (award_any a b c u).mono fun e u' h => ⟨by rw [h.1, Pure.resI_sel], h.2⟩, fun u => (rAward_any a b c u).mono fun e u' h => ⟨by rw [h.1, Pure.resI_sel], h.2⟩⟩

theorem infoTerm : ∃ i, Try.prog.info? 172 = some i ∧ i.zero = some (.agg #[.int .i64 0, .int .i64 0]) ∧ i.size = 2 ∧ i.bytes = 16 := by
  have h : (Try.prog.info? 172).map (fun i => (i.zero, i.size, i.bytes)) = some (some (.agg #[.int .i64 0, .int .i64 0]), 2, 16) := by kernel_rfl
  obtain ⟨i, hi, h2⟩ := Option.map_eq_some_iff.1 h
  simp only [Prod.mk.injEq] at h2
  exact ⟨i, hi, h2.1, h2.2.1, h2.2.2⟩

/-- The cells of some terms. -/
def termCells (len : Nat) (F P : Nat → Int) : List Value := (List.range (len * 2)).map fun j => if j % 2 = 0 then .int .i64 (F (j / 2)) else .int .i64 (P (j / 2))
theorem termCells_length (len : Nat) (F P : Nat → Int) : (termCells len F P).length = len * 2 := by simp [termCells]
theorem termCells_at {len : Nat} {F P : Nat → Int} {j : Nat} {v : Value} (h : (termCells len F P)[j]? = some v) : j / 2 < len ∧ v = if j % 2 = 0 then .int .i64 (F (j / 2)) else .int .i64 (P (j / 2)) := by
  unfold termCells at h
  rw [List.getElem?_map] at h
  by_cases hj : j < len * 2
  · rw [List.getElem?_range hj] at h
    simp at h
    exact ⟨by omega, h.symm⟩
  · rw [List.getElem?_eq_none (by simpa using hj)] at h
    cases h
theorem termCells_get {len : Nat} {F P : Nat → Int} {j : Nat} (h : j < len) : (termCells len F P)[j * 2]? = some (.int .i64 (F j)) ∧ (termCells len F P)[j * 2 + 1]? = some (.int .i64 (P j)) := by
  unfold termCells
  rw [List.getElem?_map, List.getElem?_map, List.getElem?_range (by omega), List.getElem?_range (by omega)]
  have h1 : j * 2 % 2 = 0 := by omega
  have h2 : j * 2 / 2 = j := by omega
  have h3 : (j * 2 + 1) % 2 = 1 := by omega
  have h4 : (j * 2 + 1) / 2 = j := by omega
  simp [h1, h2, h3, h4]
theorem termCells_hold {w : World} {b off len : Nat} {F P : Nat → Int} (h : ∀ j, j < len → w.cell? ⟨b, off + j * 2, none⟩ = some (.int .i64 (F j)) ∧ w.cell? ⟨b, off + j * 2 + 1, none⟩ = some (.int .i64 (P j))) {j : Nat} {v : Value} (hj : (termCells len F P)[j]? = some v) :
    w.cell? ((⟨b, off, none⟩ : Addr).add j) = some v := by
  obtain ⟨h1, rfl⟩ := termCells_at hj
  have h2 := h (j / 2) h1
  rw [Go.WideShapes.add_plain]
  by_cases he : j % 2 = 0
  · rw [if_pos he]
    have e : j / 2 * 2 = j := by omega
    rw [e] at h2
    exact h2.1
  · rw [if_neg he]
    have e : off + j / 2 * 2 + 1 = off + j := by omega
    rw [e] at h2
    exact h2.2
theorem terms_of_row {w : World} {base : Nat} {t : TypeId} {v : Value} {len : Nat} {F P : Nat → Int} (h : w.ownsRow base t 2 v len (termCells len F P)) (h0 : 0 < len) :
    ∃ a cap, v = .slice a len cap ∧ TermsAt w a len F P := by
  obtain ⟨_, hn | ⟨g, cap, cur, rfl, _, hg, _, _, _, ht⟩⟩ := h
  · omega
  · refine ⟨_, cap, rfl, fun j hj => ⟨g, 0, rfl, ?_⟩⟩
    obtain ⟨h1, h2⟩ := termCells_get (F := F) (P := P) hj
    rw [← ht, List.getElem?_take_of_lt (by omega)] at h1 h2
    constructor
    · unfold World.cell?
      simp only [hg]
      simpa using h1
    · unfold World.cell?
      simp only [hg]
      simpa using h2

set_option maxHeartbeats 4000000 in
set_option maxRecDepth 100000 in
theorem pays_walk (b lo hi d o f x y u : Int) (l : Option Addr) (len cap : Nat) (F P : Nat → Int) (hl : len ≤ 9223372036854775807) (hnil : l = none → len = 0) (w : World) (ht : TermsAt w l len F P) :
    Calls Try.prog 6 #[cargoV b lo hi, .int .i64 d, .agg #[.int .i64 o, .int .i64 f], .slice l len cap, .int .i64 x, .int .i64 y, .int .i64 u] w fun e w' => e = .returned (.bool true) ∧ Below w.heap.size w w' := by
  have HTM := Lib.hid ht
  have HN := Lib.hid hnil
  clear ht hnil
  by_cases h12 : len ≤ 12
  · have hg : ¬ ((len : Int) > 12) := by omega
    go_enter Try.func6, Try.ntmps6
    go_upto_region 3 with fail
    obtain ⟨W1, hW1⟩ : ∃ W1, (w.alloc (.cells #[.int .i64 b, .int .i64 lo, .int .i64 hi] 25)).alloc (.cells #[.int .i64 o, .int .i64 f] 27) = W1 := ⟨_, rfl⟩
    have HB1 : Hid (Below w.heap.size w W1) := by rw [← hW1]; exact Lib.hid (((Below.refl _ _).alloc (Nat.le_refl _) _).alloc (by simp) _)
    have e : ∀ j v, (#[Value.int .i64 b, .int .i64 lo, .int .i64 hi])[j]? = some v → W1.cell? ⟨w.heap.size, j, none⟩ = some v := by rw [← hW1]; intro j v h; exact cell_up ((cells_top _ _ _ rfl j).trans h) _
    have g : ∀ j v, (#[Value.int .i64 o, .int .i64 f])[j]? = some v → W1.cell? ⟨w.heap.size + 1, j, none⟩ = some v := by rw [← hW1]; intro j v h; exact (cells_top _ _ _ (by simp) j).trans h
    rw [hW1]
    clear hW1
    have HE := Lib.hid e
    have HG := Lib.hid g
    have HT1 : Hid (TermsAt W1 l len F P) := Lib.hid (HTM.out.below HB1.out)
    clear e g
    go_cut [15] (fun s wx => ∃ a' cap', s = .slice a' len cap' ∧ TermsAt wx a' len F P ∧ Below W1.heap.size W1 wx)
    case first =>
      by_cases h0 : len = 0
      · subst h0
        clear HT1 HTM HN
        have hbe : Below W1.heap.size W1 (W1.alloc (.cells #[] 172)) := (Below.refl _ _).alloc (Nat.le_refl _) _
        have HBE := Lib.hid hbe
        clear hbe
        cases l
        all_goals
          go_wp2_with fail
          go_meet
          exact ⟨_, _, rfl, fun j hj => absurd hj (Nat.not_lt_zero j), HBE.out⟩
      · obtain ⟨b0, off0, rfl, _, _⟩ := HT1.out 0 (by omega)
        have hcells : ∀ j, j < len → (W1.alloc (.cells #[] 172)).cell? ⟨b0, off0 + j * 2, none⟩ = some (.int .i64 (F j)) ∧ (W1.alloc (.cells #[] 172)).cell? ⟨b0, off0 + j * 2 + 1, none⟩ = some (.int .i64 (P j)) := fun j hj => by
          obtain ⟨b1, off1, he, h1, h2⟩ := HT1.out j hj
          cases he
          exact ⟨cell_up h1 _, cell_up h2 _⟩
        have HCE := Lib.hid hcells
        clear hcells
        obtain ⟨i0, hi, hz0, hz1, hz2⟩ := infoTerm
        go_wp2_with (at_builtin; refine wpList_append_grows _ rfl (.tmp 31) (.tmp 32) 88 rfl 172 i0 (.agg #[.int .i64 0, .int .i64 0]) 2 16 Try.underlying88 hi hz0 hz1 hz2 rfl (by decide) (some ⟨W1.heap.size, 0, none⟩) 0 0 [] rfl (by simp) rfl (by intro _ _ _ _ h; simp at h) ⟨b0, off0, none⟩ len cap (termCells len F P) rfl (termCells_length _ _ _) (fun j v h => termCells_hold HCE.out h) ?c2 (by omega) (by unfold maxLen; omega) (by omega) ?grow)
        case c2 =>
          intro v hv
          obtain ⟨j, hj⟩ := List.getElem?_of_mem hv
          obtain ⟨_, rfl⟩ := termCells_at hj
          split <;> rfl
        case grow =>
          intro v' w' hown hgrow
          obtain ⟨a', cap', rfl, hta⟩ := terms_of_row (by simpa using hown) (by omega)
          have hbe : Below W1.heap.size W1 w' := ((Below.refl _ _).alloc (Nat.le_refl _) _).grown hgrow (by simp) (fun k h => by cases h)
          have HBE := Lib.hid hbe
          have HTA := Lib.hid hta
          clear hbe hta hown hgrow
          go_wp2_with fail
          go_meet
          exact ⟨a', cap', by simp, HTA.out, HBE.out⟩
    case rest =>
      obtain ⟨a', cap', rfl, hta, hbc⟩ := hcut
      obtain ⟨x1, k1, ho1, ho2⟩ := alike_off len F P o f h12
      obtain ⟨x2, y2, k2, hf1, hf2⟩ := alike_fair b lo hi d o len F P h12
      obtain ⟨x3, k3, hw1, hw2⟩ := alike_award x y u
      have HO1 := Lib.hid ho1
      have HO2 := Lib.hid ho2
      have HF1 := Lib.hid hf1
      have HF2 := Lib.hid hf2
      have HW1 := Lib.hid hw1
      have HW2 := Lib.hid hw2
      clear ho1 ho2 hf1 hf2 hw1 hw2
      have c0 := below_cell hbc (HE.out 0 _ rfl)
      have c1 := below_cell hbc (HE.out 1 _ rfl)
      have c2 := below_cell hbc (HE.out 2 _ rfl)
      have d0 := below_cell hbc (HG.out 0 _ rfl)
      have d1 := below_cell hbc (HG.out 1 _ rfl)
      have TA0 := Lib.hid hta
      have TL0 := Lib.hid (HT1.out.below hbc)
      have HT0 : Hid (Below w.heap.size w wc) := Lib.hid (HB1.out.trans (hbc.mono HB1.out.size))
      clear hta hbc
      go_wp2_with fail
      refine (HO1.out _ _ _ TA0.out).mono ?_
      rintro e v1 ⟨rfl, hb⟩
      replace c0 := below_cell hb c0
      replace c1 := below_cell hb c1
      replace c2 := below_cell hb c2
      replace d0 := below_cell hb d0
      replace d1 := below_cell hb d1
      have TA1 := Lib.hid (TA0.out.below hb)
      have TL1 := Lib.hid (TL0.out.below hb)
      have HT1 : Hid (Below w.heap.size w v1) := Lib.hid (HT0.out.trans (hb.mono HT0.out.size))
      clear hb
      go_wp2_with fail
      refine (HO2.out _ _ _ TL1.out).mono ?_
      rintro e v2 ⟨rfl, hb⟩
      replace c0 := below_cell hb c0
      replace c1 := below_cell hb c1
      replace c2 := below_cell hb c2
      replace d0 := below_cell hb d0
      replace d1 := below_cell hb d1
      have TA2 := Lib.hid (TA1.out.below hb)
      have TL2 := Lib.hid (TL1.out.below hb)
      have HT2 : Hid (Below w.heap.size w v2) := Lib.hid (HT1.out.trans (hb.mono HT1.out.size))
      clear hb
      go_wp2_with fail
      refine (HF1.out _ _ _ TA2.out).mono ?_
      rintro e v3 ⟨rfl, hb⟩
      have p30 := cells_top v3 #[.int .i64 x2, .int .i64 y2] 34 rfl 0
      have p31 := cells_top v3 #[.int .i64 x2, .int .i64 y2] 34 rfl 1
      replace c0 := cell_up (below_cell hb c0) (.cells #[.int .i64 x2, .int .i64 y2] 34)
      replace c1 := cell_up (below_cell hb c1) (.cells #[.int .i64 x2, .int .i64 y2] 34)
      replace c2 := cell_up (below_cell hb c2) (.cells #[.int .i64 x2, .int .i64 y2] 34)
      replace d0 := cell_up (below_cell hb d0) (.cells #[.int .i64 x2, .int .i64 y2] 34)
      replace d1 := cell_up (below_cell hb d1) (.cells #[.int .i64 x2, .int .i64 y2] 34)
      have hb2 := hb.alloc hb.size (.cells #[.int .i64 x2, .int .i64 y2] 34)
      have TA3 := Lib.hid (TA2.out.below hb2)
      have TL3 := Lib.hid (TL2.out.below hb2)
      have HT3 := Lib.hid (HT2.out.trans (hb2.mono HT2.out.size))
      clear hb hb2
      obtain ⟨W3, hW⟩ : ∃ W, v3.alloc (.cells #[.int .i64 x2, .int .i64 y2] 34) = W := ⟨_, rfl⟩
      rw [hW] at c0 c1 c2 d0 d1 p30 p31 TA3 TL3 HT3
      go_wp2_with fail
      clear hW
      refine (HF2.out _ _ _ TL3.out).mono ?_
      rintro e v4 ⟨rfl, hb⟩
      have p40 := cells_top v4 #[.int .i64 x2, .int .i64 y2] 34 rfl 0
      have p41 := cells_top v4 #[.int .i64 x2, .int .i64 y2] 34 rfl 1
      replace c0 := cell_up (below_cell hb c0) (.cells #[.int .i64 x2, .int .i64 y2] 34)
      replace c1 := cell_up (below_cell hb c1) (.cells #[.int .i64 x2, .int .i64 y2] 34)
      replace c2 := cell_up (below_cell hb c2) (.cells #[.int .i64 x2, .int .i64 y2] 34)
      replace d0 := cell_up (below_cell hb d0) (.cells #[.int .i64 x2, .int .i64 y2] 34)
      replace d1 := cell_up (below_cell hb d1) (.cells #[.int .i64 x2, .int .i64 y2] 34)
      replace p30 := cell_up (below_cell hb p30) (.cells #[.int .i64 x2, .int .i64 y2] 34)
      replace p31 := cell_up (below_cell hb p31) (.cells #[.int .i64 x2, .int .i64 y2] 34)
      have hb2 := hb.alloc hb.size (.cells #[.int .i64 x2, .int .i64 y2] 34)
      have TA4 := Lib.hid (TA3.out.below hb2)
      have TL4 := Lib.hid (TL3.out.below hb2)
      have HT4 := Lib.hid (HT3.out.trans (hb2.mono HT3.out.size))
      clear hb hb2
      obtain ⟨W4, hW⟩ : ∃ W, v4.alloc (.cells #[.int .i64 x2, .int .i64 y2] 34) = W := ⟨_, rfl⟩
      rw [hW] at c0 c1 c2 d0 d1 p30 p31 p40 p41 TA4 TL4 HT4
      go_wp2_with fail
      clear hW
      refine (HW1.out _).mono ?_
      rintro e v5 ⟨rfl, hb⟩
      replace c0 := below_cell hb c0
      replace c1 := below_cell hb c1
      replace c2 := below_cell hb c2
      replace d0 := below_cell hb d0
      replace d1 := below_cell hb d1
      replace p30 := below_cell hb p30
      replace p31 := below_cell hb p31
      replace p40 := below_cell hb p40
      replace p41 := below_cell hb p41
      have TA5 := Lib.hid (TA4.out.below hb)
      have TL5 := Lib.hid (TL4.out.below hb)
      have HT5 : Hid (Below w.heap.size w v5) := Lib.hid (HT4.out.trans (hb.mono HT4.out.size))
      clear hb
      go_wp2_with fail
      refine (HW2.out _).mono ?_
      rintro e vv ⟨rfl, rfl⟩
      go_wp2_with fail
      refine (same_any a' l len cap' cap F P h12 _ TA5.out TL5.out).mono ?_
      rintro e vz ⟨rfl, hb⟩
      have HTZ : Hid (Below w.heap.size w vz) := Lib.hid (HT5.out.trans (hb.mono HT5.out.size))
      clear hb
      go_wp2_with fail
      go_ret
      exact ⟨rfl, HTZ.out⟩
  · have hg : ((len : Int) > 12) := by omega
    go_enter Try.func6, Try.ntmps6
    go_wp2_with fail
    go_ret
    refine ⟨rfl, ?_⟩
    repeat (first | exact Below.refl _ _ | refine Below.alloc ?_ (by simp; try omega) _)

end Go.Proofs.Yteckpbghmhelpaa
