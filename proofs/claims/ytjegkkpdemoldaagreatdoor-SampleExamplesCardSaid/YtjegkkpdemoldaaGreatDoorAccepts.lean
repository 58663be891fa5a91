/-
  The contract of Accepts.
-/
import Derived.Test.YtjegkkpdemoldaaGreatDoorRule
import Derived.Test.YtjegkkpdemoldaaGreatDoorAtMost
namespace Go.Proofs.YtjegkkpdemoldaaGreatDoor
open Go.RowKit Go.Shelf

set_option maxHeartbeats 2000000 in
set_option maxRecDepth 100000 in
/-- **Accepts**. -/
theorem accepts_top (b lo hi d o f : Int) (w : World) :
    Calls Tryz.prog 13 #[cargoV b lo hi, .agg #[.int .i64 o, .int .i64 f], .int .i64 d] w fun e w' => e = .returned (Pure.res2 (Pure.first3 (Pure.err (Pure.okCargo b lo hi) 10) (Pure.err (Pure.okDraw b o f) 13) (Pure.err (Pure.okIn lo hi d) 2)) (partV (Pure.few b d o f) (Pure.sets b o))) ∧ Below w.heap.size w w' := by
  go_enter Tryz.func13, Tryz.ntmps13
  go_upto_region 1 with fail
  obtain ⟨W1, hW1⟩ : ∃ W1, ((w.alloc (.cells #[.int .i64 b, .int .i64 lo, .int .i64 hi] 28)).alloc (.cells #[.int .i64 o, .int .i64 f] 47)).alloc (.cells #[.int .i64 0, .int .i64 0] 31) = W1 := ⟨_, rfl⟩
  have HB1 : Hid (Below w.heap.size w W1) := by rw [← hW1]; exact Lib.hid ((((Below.refl _ _).alloc (Nat.le_refl _) _).alloc (by simp) _).alloc (by simp; omega) _)
  have HSZ : Hid (W1.heap.size = w.heap.size + 3) := by rw [← hW1]; exact Lib.hid (by simp)
  have e : ∀ j v, (#[Value.int .i64 b, .int .i64 lo, .int .i64 hi])[j]? = some v → W1.cell? ⟨w.heap.size, j, none⟩ = some v := by rw [← hW1]; intro j v h; exact cell_up (cell_up ((cells_top _ _ _ rfl j).trans h) _) _
  have g : ∀ j v, (#[Value.int .i64 o, .int .i64 f])[j]? = some v → W1.cell? ⟨w.heap.size + 1, j, none⟩ = some v := by rw [← hW1]; intro j v h; exact cell_up ((cells_top _ _ _ (by simp) j).trans h) _
  have r : ∀ j v, (#[Value.int .i64 0, .int .i64 0])[j]? = some v → W1.cell? ⟨w.heap.size + 1 + 1, j, none⟩ = some v := by rw [← hW1]; intro j v h; exact (cells_top _ _ _ (by simp) j).trans h
  have fr : ∀ j, W1.frozen? ⟨w.heap.size + 1 + 1, j, none⟩ = false := by rw [← hW1]; intro j; exact frozen_top _ _ _ (by simp) j
  rw [hW1]
  clear hW1
  have HK0 : Hid (W1.drew.cell? ⟨w.heap.size, 0, none⟩ = some (.int .i64 b) ∧ W1.drew.cell? ⟨w.heap.size, 1, none⟩ = some (.int .i64 lo) ∧ W1.drew.cell? ⟨w.heap.size, 2, none⟩ = some (.int .i64 hi) ∧ W1.drew.cell? ⟨w.heap.size + 1, 0, none⟩ = some (.int .i64 o) ∧ W1.drew.cell? ⟨w.heap.size + 1, 1, none⟩ = some (.int .i64 f) ∧ Below W1.heap.size W1 W1.drew) :=
    Lib.hid ⟨e 0 _ rfl, e 1 _ rfl, e 2 _ rfl, g 0 _ rfl, g 1 _ rfl, (Below.refl _ _).drew⟩
  have HKS : Hid (∀ u v : World, (u.cell? ⟨w.heap.size, 0, none⟩ = some (.int .i64 b) ∧ u.cell? ⟨w.heap.size, 1, none⟩ = some (.int .i64 lo) ∧ u.cell? ⟨w.heap.size, 2, none⟩ = some (.int .i64 hi) ∧ u.cell? ⟨w.heap.size + 1, 0, none⟩ = some (.int .i64 o) ∧ u.cell? ⟨w.heap.size + 1, 1, none⟩ = some (.int .i64 f) ∧ Below W1.heap.size W1 u) → Below u.heap.size u v →
      (v.cell? ⟨w.heap.size, 0, none⟩ = some (.int .i64 b) ∧ v.cell? ⟨w.heap.size, 1, none⟩ = some (.int .i64 lo) ∧ v.cell? ⟨w.heap.size, 2, none⟩ = some (.int .i64 hi) ∧ v.cell? ⟨w.heap.size + 1, 0, none⟩ = some (.int .i64 o) ∧ v.cell? ⟨w.heap.size + 1, 1, none⟩ = some (.int .i64 f) ∧ Below W1.heap.size W1 v)) :=
    Lib.hid (fun u v h k => ⟨below_cell k h.1, below_cell k h.2.1, below_cell k h.2.2.1, below_cell k h.2.2.2.1, below_cell k h.2.2.2.2.1, h.2.2.2.2.2.trans (k.mono h.2.2.2.2.2.size)⟩)
  have HE := Lib.hid e
  have HG := Lib.hid g
  have HR := Lib.hid r
  have HFR := Lib.hid fr
  clear e g r fr
  go_cut [8] (fun s wx => s = .int .i64 (Pure.first3 (Pure.err (Pure.okCargo b lo hi) 10) (Pure.err (Pure.okDraw b o f) 13) (Pure.err (Pure.okIn lo hi d) 2)) ∧ Below W1.heap.size W1 wx)
  case first =>
    go_region_held3 (fun w' => w'.cell? ⟨w.heap.size, 0, none⟩ = some (.int .i64 b) ∧ w'.cell? ⟨w.heap.size, 1, none⟩ = some (.int .i64 lo) ∧ w'.cell? ⟨w.heap.size, 2, none⟩ = some (.int .i64 hi) ∧ w'.cell? ⟨w.heap.size + 1, 0, none⟩ = some (.int .i64 o) ∧ w'.cell? ⟨w.heap.size + 1, 1, none⟩ = some (.int .i64 f) ∧ Below W1.heap.size W1 w')
      (first | exact HK0.out | exact HKS.out _ _ (by assumption) (by assumption) | exact HKS.out _ _ (by assumption) ((Below.refl _ _).alloc (Nat.le_refl _) _))
      (first
        | (go_at_call 29; refine (check_any _ _ _ _).mono ?_; rintro e w' ⟨rfl, hb⟩)
        | (go_at_call 46; refine (checkRule_any _ _ _ _ _ _).mono ?_; rintro e w' ⟨rfl, hb⟩)
        | (go_at_call 33; refine (checkDirty1 _ _ _ d _ _ _ ?_).mono ?_; (first | exact cell_top _ _ _ rfl | (refine below_cell (by assumption) ?_; (first | exact cell_top _ _ _ rfl | exact cell_top_drew _ _ _ rfl | (refine below_cell (by assumption) ?_; (first | exact cell_top _ _ _ rfl | exact cell_top_drew _ _ _ rfl))))); rintro e w' ⟨rfl, hb⟩)
        | (go_at_call 32; refine (firstError3 (Pure.err (Pure.okCargo b lo hi) 10) (Pure.err (Pure.okDraw b o f) 13) (Pure.err (Pure.okIn lo hi d) 2) _ _ _ (cells_top _ _ _ rfl 0) (cells_top _ _ _ rfl 1) (cells_top _ _ _ rfl 2)).mono ?_; rintro e w' ⟨rfl, hb⟩))
    all_goals (go_wp2_with fail; go_meet; refine ⟨rfl, ?_⟩; exact And.right (And.right (And.right (And.right (And.right (by assumption))))))
  case rest =>
    obtain ⟨rfl, hBc⟩ := hcut
    obtain ⟨code, hcode⟩ : ∃ c, Pure.first3 (Pure.err (Pure.okCargo b lo hi) 10) (Pure.err (Pure.okDraw b o f) 13) (Pure.err (Pure.okIn lo hi d) 2) = c := ⟨_, rfl⟩
    rw [hcode]
    have r0 := below_cell hBc (HR.out 0 _ rfl)
    have r1 := below_cell hBc (HR.out 1 _ rfl)
    have f0 := below_frozen hBc (HR.out 0 _ rfl) (HFR.out 0)
    have f1 := below_frozen hBc (HR.out 1 _ rfl) (HFR.out 1)
    have HBC := Lib.hid hBc
    have HCODE := Lib.hid hcode
    clear hBc hcode HK0 HKS
    by_cases h0 : code = 0
    · subst h0
      obtain ⟨q1, q2, q3⟩ := Pure.first3_zero HCODE.out
      have q1 := Pure.err_zero q1 (by decide)
      have q2 := Pure.err_zero q2 (by decide)
      have q3 := Pure.err_zero q3 (by decide)
      unfold Pure.okCargo at q1
      unfold Pure.okDraw at q2
      unfold Pure.okIn at q3
      simp only [decide_eq_true_eq] at q1 q2 q3
      obtain ⟨b1, b2, b3, b4, b5⟩ := q1
      obtain ⟨o1, o2, o3, o4⟩ := q2
      obtain ⟨d1, d2⟩ := q3
      have c0 := below_cell HBC.out (HE.out 0 _ rfl)
      have c1 := below_cell HBC.out (HE.out 1 _ rfl)
      have c2 := below_cell HBC.out (HE.out 2 _ rfl)
      have g0 := below_cell HBC.out (HG.out 0 _ rfl)
      have g1 := below_cell HBC.out (HG.out 1 _ rfl)
      have HT0 : Hid (wc.drew.cell? ⟨w.heap.size, 0, none⟩ = some (.int .i64 b) ∧ wc.drew.cell? ⟨w.heap.size, 1, none⟩ = some (.int .i64 lo) ∧ wc.drew.cell? ⟨w.heap.size, 2, none⟩ = some (.int .i64 hi) ∧ wc.drew.cell? ⟨w.heap.size + 1, 0, none⟩ = some (.int .i64 o) ∧ wc.drew.cell? ⟨w.heap.size + 1, 1, none⟩ = some (.int .i64 f)) :=
        Lib.hid ⟨c0, c1, c2, g0, g1⟩
      have HTS : Hid (∀ v : World, Below wc.heap.size wc v → (v.cell? ⟨w.heap.size, 0, none⟩ = some (.int .i64 b) ∧ v.cell? ⟨w.heap.size, 1, none⟩ = some (.int .i64 lo) ∧ v.cell? ⟨w.heap.size, 2, none⟩ = some (.int .i64 hi) ∧ v.cell? ⟨w.heap.size + 1, 0, none⟩ = some (.int .i64 o) ∧ v.cell? ⟨w.heap.size + 1, 1, none⟩ = some (.int .i64 f))) :=
        Lib.hid (fun v k => ⟨below_cell k c0, below_cell k c1, below_cell k c2, below_cell k g0, below_cell k g1⟩)
      have HTC : Hid (∀ (v : World) (x y : Value), (v.cell? ⟨w.heap.size, 0, none⟩ = some (.int .i64 b) ∧ v.cell? ⟨w.heap.size, 1, none⟩ = some (.int .i64 lo) ∧ v.cell? ⟨w.heap.size, 2, none⟩ = some (.int .i64 hi) ∧ v.cell? ⟨w.heap.size + 1, 0, none⟩ = some (.int .i64 o) ∧ v.cell? ⟨w.heap.size + 1, 1, none⟩ = some (.int .i64 f)) → (((v.setCell ⟨w.heap.size + 1 + 1, 0, none⟩ x).setCell ⟨w.heap.size + 1 + 1, 1, none⟩ y).cell? ⟨w.heap.size, 0, none⟩ = some (.int .i64 b) ∧ ((v.setCell ⟨w.heap.size + 1 + 1, 0, none⟩ x).setCell ⟨w.heap.size + 1 + 1, 1, none⟩ y).cell? ⟨w.heap.size, 1, none⟩ = some (.int .i64 lo) ∧ ((v.setCell ⟨w.heap.size + 1 + 1, 0, none⟩ x).setCell ⟨w.heap.size + 1 + 1, 1, none⟩ y).cell? ⟨w.heap.size, 2, none⟩ = some (.int .i64 hi) ∧ ((v.setCell ⟨w.heap.size + 1 + 1, 0, none⟩ x).setCell ⟨w.heap.size + 1 + 1, 1, none⟩ y).cell? ⟨w.heap.size + 1, 0, none⟩ = some (.int .i64 o) ∧ ((v.setCell ⟨w.heap.size + 1 + 1, 0, none⟩ x).setCell ⟨w.heap.size + 1 + 1, 1, none⟩ y).cell? ⟨w.heap.size + 1, 1, none⟩ = some (.int .i64 f))) :=
        Lib.hid (fun v x y h => ⟨far2 (by simp; omega) h.1, far2 (by simp; omega) h.2.1, far2 (by simp; omega) h.2.2.1, far2 (by simp) h.2.2.2.1, far2 (by simp) h.2.2.2.2⟩)
      have R0 := Lib.hid r0
      have R1 := Lib.hid r1
      have F0 := Lib.hid f0
      have F1 := Lib.hid f1
      clear c0 c1 c2 g0 g1 r0 r1 f0 f1
      go_wp2_with fail
      go_region_held3 (fun v => v.cell? ⟨w.heap.size, 0, none⟩ = some (.int .i64 b) ∧ v.cell? ⟨w.heap.size, 1, none⟩ = some (.int .i64 lo) ∧ v.cell? ⟨w.heap.size, 2, none⟩ = some (.int .i64 hi) ∧ v.cell? ⟨w.heap.size + 1, 0, none⟩ = some (.int .i64 o) ∧ v.cell? ⟨w.heap.size + 1, 1, none⟩ = some (.int .i64 f))
        (first | exact HT0.out | exact HTS.out _ (by assumption) | exact HTC.out _ _ _ (by assumption))
        (first
          | (go_at_call 35; refine (work_any b lo hi _).mono ?_; rintro e w2 ⟨M, T, C, rfl, hMw, hw2, hbw⟩; have hbx : Below wc.heap.size wc w2 := (Below.refl wc.heap.size wc).drew.trans hbw)
          | (go_at_call 47; refine (accepts_any b lo hi d o f (by omega) b2 (by omega) (by omega) (by omega) o1 o2 _ hw2).mono ?_; rintro e w3 ⟨rfl, hs3⟩; have hby : Below wc.heap.size wc w3 := below_step hbx hs3 hbx.size hMw; have k0 := below_cell hby R0.out; have k1 := below_cell hby R1.out; have m0 := below_frozen hby R0.out F0.out; have m1 := below_frozen hby R1.out F1.out))
      all_goals
        go_wp2_with fail
        refine bodyPost_ret (v := .tuple #[partV (Pure.few b d o f) (Pure.sets b o), .int .i64 0]) (by simp [results, Tryz.results13, go_sem, k0, k1]) rfl ⟨?_, ?_⟩
        · rw [HCODE.out, Pure.res2_zero rfl]
        · have z1 := HSZ.out
          have z2 := HBC.out.size
          have hB := (HB1.out.trans (HBC.out.mono (by omega))).trans (hby.mono (B' := w.heap.size) (by omega))
          exact (hB.setCell (p := ⟨w.heap.size + 1 + 1, 0, none⟩) (by simp; omega) _).setCell (p := ⟨w.heap.size + 1 + 1, 1, none⟩) (by simp; omega) _
    · have hne : (code != 0) = true := by simpa using h0
      have H0 := Lib.hid h0
      clear h0
      go_wp2_with fail
      refine bodyPost_ret (v := .tuple #[.agg #[.int .i64 0, .int .i64 0], .int .i64 code]) (by simp [results, Tryz.results13, go_sem, r0, r1]) rfl ⟨?_, ?_⟩
      · rw [HCODE.out, Pure.res2_err H0.out]
      · exact ((HB1.out.trans (HBC.out.mono (by have := HSZ.out; omega))).setCell (p := ⟨w.heap.size + 1 + 1, 0, none⟩) (by simp; omega) _).setCell (p := ⟨w.heap.size + 1 + 1, 1, none⟩) (by simp; omega) _

end Go.Proofs.YtjegkkpdemoldaaGreatDoor
