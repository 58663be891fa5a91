/-
  The contracts of checkChances and after: a cargo at work behind a draw that some number of dirty bags explains.
-/
import Derived.Test.YtjegkkpdemoldaaGreatDoorTerms
import Derived.Test.YtjegkkpdemoldaaGreatDoorExplained
import Derived.Test.YtjegkkpdemoldaaGreatDoorAtMost
namespace Go.Proofs.YtjegkkpdemoldaaGreatDoor
open Go.RowKit Go.Shelf

namespace Pure
def okPart (num den : Int) : Prop := 1 ≤ den ∧ den ≤ 1000 ∧ 0 ≤ num ∧ num ≤ den
instance (num den : Int) : Decidable (okPart num den) := by unfold okPart; infer_instance
/-- Whether all of some chances are valid: F their Nums, P their Dens. -/
def okParts (len : Nat) (F P : Nat → Int) : Bool := decide (∀ j, j < len → okPart (F j) (P j))
theorem okParts_true {len : Nat} {F P : Nat → Int} (h : ∀ j, j < len → okPart (F j) (P j)) : okParts len F P = true := by unfold okParts; simpa using h
theorem okParts_no {len : Nat} {F P : Nat → Int} {k : Nat} (h : k < len) (h1 : ¬ okPart (F k) (P k)) : okParts len F P = false := by
  unfold okParts
  rw [decide_eq_false_iff_not]
  intro h2
  exact h1 (h2 k h)
end Pure

set_option maxHeartbeats 2000000 in
set_option maxRecDepth 100000 in
/-- **checkChances**. -/
theorem checkChances_any (a : Option Addr) (len cap : Nat) (F P : Nat → Int) (hl : len ≤ 9223372036854775807) (w : World) (ht : TermsAt w a len F P) :
    Calls Tryz.prog 43 #[.slice a len cap] w fun e w' => e = .returned (.int .i64 (Pure.err (Pure.okParts len F P) 12)) ∧ Below w.heap.size w w' := by
  have HT := Lib.hid ht
  clear ht
  go_enter Tryz.func43, Tryz.ntmps43
  go_wp2_with fail
  go_loopw [4, 7] (fun _ i wr => ∃ k : Nat, k ≤ len ∧ i = .int .i64 k ∧ (∀ j, j < k → Pure.okPart (F j) (P j)) ∧ Below w.heap.size w wr) (fun _ i _ => len - (intOf i).toNat)
  case atStart => exact ⟨0, Nat.zero_le _, rfl, fun j hj => absurd hj (Nat.not_lt_zero j), Below.refl _ _⟩
  case round =>
    obtain ⟨k, hk, rfl, hF, hB⟩ := hrel
    have HFS := Lib.hid hF
    clear hF
    by_cases hk1 : k < len
    · obtain ⟨b, off, rfl, g0, g1⟩ := HT.out k hk1
      have e0 := below_cell hB g0
      have e1 := below_cell hB g1
      obtain ⟨r1, h1⟩ : ∃ r, (decide (1 ≤ P k) && decide (P k ≤ 1000)) = r := ⟨_, rfl⟩
      obtain ⟨r2, h2⟩ : ∃ r, (decide (0 ≤ F k) && decide (F k ≤ P k)) = r := ⟨_, rfl⟩
      have HFI : Hid (Pure.okPart (F k) (P k) ↔ r1 = true ∧ r2 = true) := Lib.hid (by unfold Pure.okPart; rw [← h1, ← h2]; simp; omega)
      have R1 := Lib.hid h1
      have R2 := Lib.hid h2
      have HB := Lib.hid hB
      clear h1 h2 g0 g1 hB
      go_wp2_with fail
      refine (within1 1 1000 (P k) _ 1 _ (cells_top _ _ _ (by simp) 0) r1 R1.out).mono ?_
      rintro e w' ⟨rfl, rfl⟩
      obtain ⟨W3, hW3⟩ : ∃ W3, ((wr.alloc (.cells #[.int .i64 (F k), .int .i64 (P k)] 31)).alloc (.cells #[.int .i64 (P k)] 3)).alloc (.cells #[.int .i64 1, .int .i64 1000] 26) = W3 := ⟨_, rfl⟩
      have hB3 : Below wr.heap.size wr W3 := by
        rw [← hW3]
        repeat (first | exact Below.refl _ _ | refine Below.alloc ?_ (by simp; try omega) _)
      have t0 : W3.cell? ⟨wr.heap.size, 0, none⟩ = some (.int .i64 (F k)) := by
        rw [← hW3]
        exact cell_up (cell_up (cells_top _ _ _ rfl 0) _) _
      have t1 : W3.cell? ⟨wr.heap.size, 1, none⟩ = some (.int .i64 (P k)) := by
        rw [← hW3]
        exact cell_up (cell_up (cells_top _ _ _ rfl 1) _) _
      have HB3 := Lib.hid hB3
      rw [hW3]
      clear hW3 hB3 e0 e1
      cases r1
      · go_wp2_with fail
        go_ret
        exact ⟨ret_int (by rw [Pure.okParts_no hk1 (by rw [HFI.out]; simp)]; rfl), HB.out.trans (HB3.out.mono HB.out.size)⟩
      · go_wp2_with fail
        refine (within1 0 (P k) (F k) _ 1 _ (cells_top _ _ _ (by simp) 0) r2 R2.out).mono ?_
        rintro e w' ⟨rfl, rfl⟩
        have hB5 : Below w.heap.size w ((W3.alloc (.cells #[.int .i64 (F k)] 3)).alloc (.cells #[.int .i64 0, .int .i64 (P k)] 26)) := by
          have h := HB.out.trans (HB3.out.mono HB.out.size)
          exact (h.alloc h.size _).alloc (by have := h.size; simp; omega) _
        have HB5 := Lib.hid hB5
        clear hB5
        cases r2
        · go_wp2_with fail
          go_ret
          exact ⟨ret_int (by rw [Pure.okParts_no hk1 (by rw [HFI.out]; simp)]; rfl), HB5.out⟩
        · go_wp2_with fail
          go_roundw
          case rel =>
            refine ⟨k + 1, by omega, by go_num, ?_, HB5.out⟩
            intro j hj
            by_cases hjk : j < k
            · exact HFS.out j hjk
            · obtain rfl : j = k := by omega
              rw [HFI.out]
              simp
          case measure => simp [intOf]; omega
    · obtain rfl : k = len := by omega
      go_wp2_with fail
      go_ret
      exact ⟨ret_int (by rw [Pure.okParts_true HFS.out]; rfl), hB⟩

/-- A cell behind four stores into another block. -/
theorem far4 {w : World} {n : Nat} {a : Addr} {u x y z v : Value} (hne : n ≠ a.block) (h : w.cell? a = some u) : ((((w.setCell ⟨n, 0, none⟩ x).setCell ⟨n, 1, none⟩ y).setCell ⟨n, 2, none⟩ z).setCell ⟨n, 3, none⟩ v).cell? a = some u :=
  (World.cell?_setCell_far _ _ _ _ hne).trans ((World.cell?_setCell_far _ _ _ _ hne).trans (far2 hne h))
theorem Below.put4 {n b : Nat} {w w' : World} (h : Below n w w') (hb : n ≤ b) (x y z v : Value) : Below n w ((((w'.setCell ⟨b, 0, none⟩ x).setCell ⟨b, 1, none⟩ y).setCell ⟨b, 2, none⟩ z).setCell ⟨b, 3, none⟩ v) :=
  (((h.setCell (p := ⟨b, 0, none⟩) hb _).setCell (p := ⟨b, 1, none⟩) hb _).setCell (p := ⟨b, 2, none⟩) hb _).setCell (p := ⟨b, 3, none⟩) hb _

abbrev noHold : Value := .agg #[.int .i64 0, .int .i64 0, .int .i64 0, .nilFunc]

namespace Pure
/-- The code of what is asked behind a draw. -/
def afterE (b lo hi o f : Int) (chances : Bool) : Int :=
  let code := first3 (err (okCargo b lo hi) 10) (err (okDraw b o f) 11) (err chances 12)
  if code = 0 then err (some b.toNat lo hi o f) 8 else code
end Pure

set_option maxHeartbeats 4000000 in
set_option maxRecDepth 100000 in
/-- **after**. -/
theorem after_any (b lo hi o f : Int) (a : Option Addr) (len cap : Nat) (F P : Nat → Int) (hl : len ≤ 9223372036854775807) (w : World) (ht : TermsAt w a len F P) :
    Calls Tryz.prog 40 #[cargoV b lo hi, .agg #[.int .i64 o, .int .i64 f], .slice a len cap] w fun e w' =>
      (Pure.afterE b lo hi o f (Pure.okParts len F P) ≠ 0 ∧ e = .returned (.tuple #[noHold, .int .i64 (Pure.afterE b lo hi o f (Pure.okParts len F P))]) ∧ Below w.heap.size w w') ∨
      (Pure.afterE b lo hi o f (Pure.okParts len F P) = 0 ∧ ∃ M T C : Nat, e = .returned (.tuple #[holdV b lo hi T C, .int .i64 0]) ∧ w.heap.size ≤ M ∧ Cnt w' M T C ∧ Below w.heap.size w w') := by
  have HTA := Lib.hid ht
  clear ht
  go_enter Tryz.func40, Tryz.ntmps40
  go_upto_region 1 with fail
  obtain ⟨W1, hW1⟩ : ∃ W1, ((w.alloc (.cells #[.int .i64 b, .int .i64 lo, .int .i64 hi] 28)).alloc (.cells #[.int .i64 o, .int .i64 f] 37)).alloc (.cells #[.int .i64 0, .int .i64 0, .int .i64 0, .nilFunc] 82) = W1 := ⟨_, rfl⟩
  have HB1 : Hid (Below w.heap.size w W1) := by rw [← hW1]; exact Lib.hid ((((Below.refl _ _).alloc (Nat.le_refl _) _).alloc (by simp) _).alloc (by simp; omega) _)
  have HSZ : Hid (W1.heap.size = w.heap.size + 3) := by rw [← hW1]; exact Lib.hid (by simp)
  have e : ∀ j v, (#[Value.int .i64 b, .int .i64 lo, .int .i64 hi])[j]? = some v → W1.cell? ⟨w.heap.size, j, none⟩ = some v := by rw [← hW1]; intro j v h; exact cell_up (cell_up ((cells_top _ _ _ rfl j).trans h) _) _
  have g : ∀ j v, (#[Value.int .i64 o, .int .i64 f])[j]? = some v → W1.cell? ⟨w.heap.size + 1, j, none⟩ = some v := by rw [← hW1]; intro j v h; exact cell_up ((cells_top _ _ _ (by simp) j).trans h) _
  have r : ∀ j v, (#[Value.int .i64 0, .int .i64 0, .int .i64 0, .nilFunc])[j]? = some v → W1.cell? ⟨w.heap.size + 1 + 1, j, none⟩ = some v := by rw [← hW1]; intro j v h; exact (cells_top _ _ _ (by simp) j).trans h
  have fr : ∀ j, W1.frozen? ⟨w.heap.size + 1 + 1, j, none⟩ = false := by rw [← hW1]; intro j; exact frozen_top _ _ _ (by simp) j
  rw [hW1]
  clear hW1
  have HK0 : Hid (W1.drew.cell? ⟨w.heap.size, 0, none⟩ = some (.int .i64 b) ∧ W1.drew.cell? ⟨w.heap.size, 1, none⟩ = some (.int .i64 lo) ∧ W1.drew.cell? ⟨w.heap.size, 2, none⟩ = some (.int .i64 hi) ∧ W1.drew.cell? ⟨w.heap.size + 1, 0, none⟩ = some (.int .i64 o) ∧ W1.drew.cell? ⟨w.heap.size + 1, 1, none⟩ = some (.int .i64 f) ∧ Below W1.heap.size W1 W1.drew) :=
    Lib.hid ⟨e 0 _ rfl, e 1 _ rfl, e 2 _ rfl, g 0 _ rfl, g 1 _ rfl, (Below.refl _ _).drew⟩
  have HKS : Hid (∀ u v : World, (u.cell? ⟨w.heap.size, 0, none⟩ = some (.int .i64 b) ∧ u.cell? ⟨w.heap.size, 1, none⟩ = some (.int .i64 lo) ∧ u.cell? ⟨w.heap.size, 2, none⟩ = some (.int .i64 hi) ∧ u.cell? ⟨w.heap.size + 1, 0, none⟩ = some (.int .i64 o) ∧ u.cell? ⟨w.heap.size + 1, 1, none⟩ = some (.int .i64 f) ∧ Below W1.heap.size W1 u) → Below u.heap.size u v →
      (v.cell? ⟨w.heap.size, 0, none⟩ = some (.int .i64 b) ∧ v.cell? ⟨w.heap.size, 1, none⟩ = some (.int .i64 lo) ∧ v.cell? ⟨w.heap.size, 2, none⟩ = some (.int .i64 hi) ∧ v.cell? ⟨w.heap.size + 1, 0, none⟩ = some (.int .i64 o) ∧ v.cell? ⟨w.heap.size + 1, 1, none⟩ = some (.int .i64 f) ∧ Below W1.heap.size W1 v)) :=
    Lib.hid (fun u v h k => ⟨below_cell k h.1, below_cell k h.2.1, below_cell k h.2.2.1, below_cell k h.2.2.2.1, below_cell k h.2.2.2.2.1, h.2.2.2.2.2.trans (k.mono h.2.2.2.2.2.size)⟩)
  have HTB : Hid (∀ v : World, Below W1.heap.size W1 v → TermsAt v a len F P) := Lib.hid (fun v hv => HTA.out.below (HB1.out.trans (hv.mono HB1.out.size)))
  have HE := Lib.hid e
  have HG := Lib.hid g
  have HR := Lib.hid r
  have HFR := Lib.hid fr
  clear e g r fr
  go_cut [8] (fun s wx => s = .int .i64 (Pure.first3 (Pure.err (Pure.okCargo b lo hi) 10) (Pure.err (Pure.okDraw b o f) 11) (Pure.err (Pure.okParts len F P) 12)) ∧ Below W1.heap.size W1 wx)
  case first =>
    go_region_held3 (fun w' => w'.cell? ⟨w.heap.size, 0, none⟩ = some (.int .i64 b) ∧ w'.cell? ⟨w.heap.size, 1, none⟩ = some (.int .i64 lo) ∧ w'.cell? ⟨w.heap.size, 2, none⟩ = some (.int .i64 hi) ∧ w'.cell? ⟨w.heap.size + 1, 0, none⟩ = some (.int .i64 o) ∧ w'.cell? ⟨w.heap.size + 1, 1, none⟩ = some (.int .i64 f) ∧ Below W1.heap.size W1 w')
      (first | exact HK0.out | exact HKS.out _ _ (by assumption) (by assumption) | exact HKS.out _ _ (by assumption) ((Below.refl _ _).alloc (Nat.le_refl _) _))
      (first
        | (go_at_call 29; refine (check_any _ _ _ _).mono ?_; rintro e w' ⟨rfl, hb⟩)
        | (go_at_call 58; refine (checkDraw_any _ _ _ _).mono ?_; rintro e w' ⟨rfl, hb⟩)
        | (go_at_call 43; refine (checkChances_any a len cap F P hl _ (HTB.out _ (And.right (And.right (And.right (And.right (And.right (by assumption)))))))).mono ?_; rintro e w' ⟨rfl, hb⟩)
        | (go_at_call 32; refine (firstError3 (Pure.err (Pure.okCargo b lo hi) 10) (Pure.err (Pure.okDraw b o f) 11) (Pure.err (Pure.okParts len F P) 12) _ _ _ (cells_top _ _ _ rfl 0) (cells_top _ _ _ rfl 1) (cells_top _ _ _ rfl 2)).mono ?_; rintro e w' ⟨rfl, hb⟩))
    all_goals (go_wp2_with fail; go_meet; refine ⟨rfl, ?_⟩; exact And.right (And.right (And.right (And.right (And.right (by assumption))))))
  case rest =>
    obtain ⟨rfl, hBc⟩ := hcut
    obtain ⟨code, hcode⟩ : ∃ c, Pure.first3 (Pure.err (Pure.okCargo b lo hi) 10) (Pure.err (Pure.okDraw b o f) 11) (Pure.err (Pure.okParts len F P) 12) = c := ⟨_, rfl⟩
    rw [hcode]
    have r0 := below_cell hBc (HR.out 0 _ rfl)
    have r1 := below_cell hBc (HR.out 1 _ rfl)
    have r2 := below_cell hBc (HR.out 2 _ rfl)
    have r3 := below_cell hBc (HR.out 3 _ rfl)
    have f0 := below_frozen hBc (HR.out 0 _ rfl) (HFR.out 0)
    have f1 := below_frozen hBc (HR.out 1 _ rfl) (HFR.out 1)
    have f2 := below_frozen hBc (HR.out 2 _ rfl) (HFR.out 2)
    have f3 := below_frozen hBc (HR.out 3 _ rfl) (HFR.out 3)
    have HBC := Lib.hid hBc
    have HCODE := Lib.hid hcode
    clear hBc hcode HK0 HKS
    by_cases h0 : code = 0
    · subst h0
      obtain ⟨q1, q2, q3⟩ := Pure.first3_zero HCODE.out
      have q1 := Pure.err_zero q1 (by decide)
      have q2 := Pure.err_zero q2 (by decide)
      unfold Pure.okCargo at q1
      unfold Pure.okDraw at q2
      simp only [decide_eq_true_eq] at q1 q2
      obtain ⟨b1, b2, b3, b4, b5⟩ := q1
      obtain ⟨o1, o2, o3, o4⟩ := q2
      clear q3
      have c0 := below_cell HBC.out (HE.out 0 _ rfl)
      have c1 := below_cell HBC.out (HE.out 1 _ rfl)
      have c2 := below_cell HBC.out (HE.out 2 _ rfl)
      have R0 := Lib.hid r0
      have R1 := Lib.hid r1
      have R2 := Lib.hid r2
      have R3 := Lib.hid r3
      have F0 := Lib.hid f0
      have F1 := Lib.hid f1
      have F2 := Lib.hid f2
      have F3 := Lib.hid f3
      clear r0 r1 r2 r3 f0 f1 f2 f3
      go_wp2_with (go_at_call 35; refine (work_any b lo hi _).mono ?_; rintro e w2 ⟨M, T, C, rfl, hMw, hw2, hbw⟩; have HMW := Lib.hid hMw; have HW2 := Lib.hid hw2; have HBW := Lib.hid hbw; clear hMw hw2 hbw)
      obtain ⟨bn, rfl⟩ : ∃ n : Nat, b = n := ⟨b.toNat, by omega⟩
      obtain ⟨on, rfl⟩ : ∃ n : Nat, o = n := ⟨o.toNat, by omega⟩
      obtain ⟨fn, rfl⟩ : ∃ n : Nat, f = n := ⟨f.toNat, by omega⟩
      obtain ⟨W5, hW5⟩ : ∃ W5, w2.alloc (.cells #[.int .i64 bn, .int .i64 lo, .int .i64 hi, setsV T C] 82) = W5 := ⟨_, rfl⟩
      have hB5 : Below wc.heap.size wc W5 := by rw [← hW5]; exact HBW.out.alloc HBW.out.size _
      have hC5 : Cnt W5 M T C := by rw [← hW5]; exact HW2.out.alloc _
      have hh : ∀ j v, (#[Value.int .i64 bn, .int .i64 lo, .int .i64 hi, setsV T C])[j]? = some v → W5.cell? ⟨w2.heap.size, j, none⟩ = some v := by rw [← hW5]; intro j v h; exact (cells_top _ _ _ rfl j).trans h
      have hd : ∀ j v, (#[Value.int .i64 on, .int .i64 fn])[j]? = some v → W5.cell? ⟨w.heap.size + 1, j, none⟩ = some v := fun j v h => below_cell hB5 (below_cell HBC.out (HG.out j v h))
      have HHD := Lib.hid hh
      have HDR := Lib.hid hd
      have HB5 := Lib.hid hB5
      have HC5 := Lib.hid hC5
      rw [hW5]
      clear hW5 hB5 hC5 hh hd c0 c1 c2
      obtain ⟨q, hq⟩ : ∃ q, Pure.some bn lo hi on fn = q := ⟨_, rfl⟩
      have HQ := Lib.hid hq
      clear hq
      have HT0 : Hid (W5.drew.cell? ⟨w2.heap.size, 0, none⟩ = some (.int .i64 bn) ∧ W5.drew.cell? ⟨w2.heap.size, 1, none⟩ = some (.int .i64 lo) ∧ W5.drew.cell? ⟨w2.heap.size, 2, none⟩ = some (.int .i64 hi) ∧ W5.drew.cell? ⟨w2.heap.size, 3, none⟩ = some (setsV T C) ∧ W5.drew.cell? ⟨w.heap.size + 1, 0, none⟩ = some (.int .i64 on) ∧ W5.drew.cell? ⟨w.heap.size + 1, 1, none⟩ = some (.int .i64 fn)) :=
        Lib.hid ⟨HHD.out 0 _ rfl, HHD.out 1 _ rfl, HHD.out 2 _ rfl, HHD.out 3 _ rfl, HDR.out 0 _ rfl, HDR.out 1 _ rfl⟩
      have HTS : Hid (∀ v : World, Step M W5.drew v → (v.cell? ⟨w2.heap.size, 0, none⟩ = some (.int .i64 bn) ∧ v.cell? ⟨w2.heap.size, 1, none⟩ = some (.int .i64 lo) ∧ v.cell? ⟨w2.heap.size, 2, none⟩ = some (.int .i64 hi) ∧ v.cell? ⟨w2.heap.size, 3, none⟩ = some (setsV T C) ∧ v.cell? ⟨w.heap.size + 1, 0, none⟩ = some (.int .i64 on) ∧ v.cell? ⟨w.heap.size + 1, 1, none⟩ = some (.int .i64 fn))) :=
        Lib.hid (fun v k => ⟨k.cell HT0.out.1 (cell_not_map HC5.out.drew.memo HT0.out.1), k.cell HT0.out.2.1 (cell_not_map HC5.out.drew.memo HT0.out.2.1), k.cell HT0.out.2.2.1 (cell_not_map HC5.out.drew.memo HT0.out.2.2.1), k.cell HT0.out.2.2.2.1 (cell_not_map HC5.out.drew.memo HT0.out.2.2.2.1), k.cell HT0.out.2.2.2.2.1 (cell_not_map HC5.out.drew.memo HT0.out.2.2.2.2.1), k.cell HT0.out.2.2.2.2.2 (cell_not_map HC5.out.drew.memo HT0.out.2.2.2.2.2)⟩)
      go_region_held3 (fun v => v.cell? ⟨w2.heap.size, 0, none⟩ = some (.int .i64 bn) ∧ v.cell? ⟨w2.heap.size, 1, none⟩ = some (.int .i64 lo) ∧ v.cell? ⟨w2.heap.size, 2, none⟩ = some (.int .i64 hi) ∧ v.cell? ⟨w2.heap.size, 3, none⟩ = some (setsV T C) ∧ v.cell? ⟨w.heap.size + 1, 0, none⟩ = some (.int .i64 on) ∧ v.cell? ⟨w.heap.size + 1, 1, none⟩ = some (.int .i64 fn))
        (first | exact HT0.out | exact HTS.out _ (by assumption))
        ((go_at_call 72; refine (explained_any bn lo hi on (by omega) (by omega) _ HC5.out.drew).mono ?_; rintro e w6 ⟨bm, m, D, rfl, hown, hD, hs6⟩; have hlook := hD.look (by omega) (by omega) hown (k := fn) (by omega); rw [HQ.out] at hlook; clear hown hD))
      all_goals
        have hk := HTS.out _ hs6
        obtain ⟨k0, k1, k2, k3, _, _⟩ := hk
        have hBw : Below wc.heap.size wc w6 := below_step (HB5.out.drew) hs6 HB5.out.size HMW.out
        have r0 := below_cell hBw R0.out
        have r1 := below_cell hBw R1.out
        have r2 := below_cell hBw R2.out
        have r3 := below_cell hBw R3.out
        have f0 := below_frozen hBw R0.out F0.out
        have f1 := below_frozen hBw R1.out F1.out
        have f2 := below_frozen hBw R2.out F2.out
        have f3 := below_frozen hBw R3.out F3.out
        have hCn : Cnt w6 M T C := HC5.out.drew.step hs6
        have HBW6 := Lib.hid (HB1.out.trans ((HBC.out.trans (hBw.mono HBC.out.size)).mono (by have := HSZ.out; omega)))
        have HCN := Lib.hid hCn
        clear hBw hCn hs6 hlook
        have hE : Pure.afterE bn lo hi on fn (Pure.okParts len F P) = Pure.err q 8 := by unfold Pure.afterE; simp only [HCODE.out]; rw [if_pos trivial, Int.toNat_natCast, HQ.out]
        have HEE := Lib.hid hE
        clear hE
        cases q
        · go_wp2_with fail
          refine bodyPost_ret (v := .tuple #[noHold, .int .i64 8]) (by simp [results, Tryz.results40, go_sem, r0, r1, r2, r3]) rfl (.inl ?_)
          rw [HEE.out]
          exact ⟨by decide, rfl, Below.put4 HBW6.out (by omega) _ _ _ _⟩
        · go_wp2_with fail
          refine bodyPost_ret (v := .tuple #[holdV bn lo hi T C, .int .i64 0]) (by simp [results, Tryz.results40, go_sem, r0, r1, r2, r3]) rfl (.inr ?_)
          have hne : ∀ {p : Addr} {v : Value}, w6.cell? p = some v → p.block ≠ M := fun h => cell_not_map HCN.out.memo h
          rw [HEE.out]
          refine ⟨rfl, M, T, C, rfl, ?_, ?_, Below.put4 HBW6.out (by omega) _ _ _ _⟩
          · have := HMW.out
            have := HBC.out.size
            have := HSZ.out
            omega
          · have hT : w.heap.size + 1 + 1 ≠ T := fun e => by have h1 := HCN.out.told; rw [← e, r0] at h1; cases h1
            have hC : w.heap.size + 1 + 1 ≠ C := fun e => by have h1 := HCN.out.self; rw [← e, r0] at h1; cases h1
            have hM : w.heap.size + 1 + 1 ≠ M := hne r0
            exact (((HCN.out.set hT hC hM _).set hT hC hM _).set hT hC hM _).set hT hC hM _
    · have hne : (code != 0) = true := by simpa using h0
      have H0 := Lib.hid h0
      clear h0
      go_wp2_with fail
      refine bodyPost_ret (v := .tuple #[noHold, .int .i64 code]) (by simp [results, Tryz.results40, go_sem, r0, r1, r2, r3]) rfl (.inl ?_)
      have hE : Pure.afterE b lo hi o f (Pure.okParts len F P) = code := by unfold Pure.afterE; simp only [HCODE.out]; rw [if_neg H0.out]
      rw [hE]
      exact ⟨H0.out, rfl, Below.put4 (HB1.out.trans (HBC.out.mono (by have := HSZ.out; omega))) (by omega) _ _ _ _⟩

end Go.Proofs.YtjegkkpdemoldaaGreatDoor
