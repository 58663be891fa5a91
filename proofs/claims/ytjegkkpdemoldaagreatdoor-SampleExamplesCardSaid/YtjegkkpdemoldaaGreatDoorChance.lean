/-
  The contracts of Chance, AtMost, Mean and Ways.
-/
import Derived.Test.YtjegkkpdemoldaaGreatDoorMost
import Derived.Test.YtjegkkpdemoldaaGreatDoorErrs
import Derived.Test.YtjegkkpdemoldaaGreatDoorChecks
import Derived.Deep.DeepCutAuto
namespace Go.Proofs.YtjegkkpdemoldaaGreatDoor
open Go.RowKit Go.Shelf

namespace Pure
/-- The first of three codes that is an error. -/
def first3 (a b c : Int) : Int := ([a, b, c].find? (· != 0)).getD 0
theorem first3_zero {a b c : Int} (h : first3 a b c = 0) : a = 0 ∧ b = 0 ∧ c = 0 := by
  unfold first3 at h
  by_cases ha : a = 0
  · by_cases hb : b = 0
    · by_cases hc : c = 0
      · exact ⟨ha, hb, hc⟩
      · simp [ha, hb, hc] at h
    · simp [ha, hb] at h
  · simp [ha] at h
theorem err_zero {so : Bool} {n : Int} (h : err so n = 0) (hn : n ≠ 0) : so = true := by
  cases so
  · exact absurd h hn
  · rfl
/-- A fraction with an error: without one if the code is 0. -/
def res2 (code : Int) (v : Value) : Value := if code = 0 then .tuple #[v, .int .i64 0] else .tuple #[.agg #[.int .i64 0, .int .i64 0], .int .i64 code]
theorem res2_zero {code : Int} (h : code = 0) (v : Value) : res2 code v = .tuple #[v, .int .i64 0] := by unfold res2; rw [if_pos h]
theorem res2_err {code : Int} (h : code ≠ 0) (v : Value) : res2 code v = .tuple #[.agg #[.int .i64 0, .int .i64 0], .int .i64 code] := by unfold res2; rw [if_neg h]
end Pure

theorem bcell {W w1 : World} (hb : Below W.heap.size W w1) : (∀ b o, b < W.heap.size → w1.cell? ⟨b, o, none⟩ = W.cell? ⟨b, o, none⟩) ∧ (∀ b o, b < W.heap.size → w1.frozen? ⟨b, o, none⟩ = W.frozen? ⟨b, o, none⟩) :=
  ⟨fun b o h => hb.cell (p := ⟨b, o, none⟩) h, fun b o h => hb.frozen (p := ⟨b, o, none⟩) h⟩

theorem below_frozen {w w' : World} (h : Below w.heap.size w w') {a : Addr} {v : Value} (hc : w.cell? a = some v) (hf : w.frozen? a = false) : w'.frozen? a = false := (h.frozen (World.block_lt_of_cell? w a hc)).trans hf

theorem cell_top_drew (w : World) (v : Value) (t : TypeId) {b : Nat} (hb : b = w.heap.size) : (w.alloc (.cells #[v] t)).drew.cell? ⟨b, 0, none⟩ = some v := cell_top w v t hb

theorem firstError3 (a b c : Int) (s cap : Nat) (w : World) (h0 : w.cell? ⟨s, 0, none⟩ = some (.int .i64 a)) (h1 : w.cell? ⟨s, 1, none⟩ = some (.int .i64 b)) (h2 : w.cell? ⟨s, 2, none⟩ = some (.int .i64 c)) :
    Calls Tryz.prog 32 #[.slice (some ⟨s, 0, none⟩) 3 cap] w fun e w' => e = .returned (.int .i64 (Pure.first3 a b c)) ∧ Below w.heap.size w w' :=
  firstError_any s 3 cap [a, b, c] rfl (by omega) w (World.block_lt_of_cell? w _ h0) (fun j hj => by
    have : j = 0 ∨ j = 1 ∨ j = 2 := by omega
    rcases this with rfl | rfl | rfl
    · exact h0
    · exact h1
    · exact h2)

set_option maxHeartbeats 2000000 in
set_option maxRecDepth 100000 in
/-- **Chance**. -/
theorem chance_any (b lo hi d o f : Int) (w : World) :
    Calls Tryz.prog 23 #[cargoV b lo hi, .int .i64 d, .agg #[.int .i64 o, .int .i64 f]] w fun e w' => e = .returned (Pure.res2 (Pure.first3 (Pure.err (Pure.okCargo b lo hi) 10) (Pure.err (Pure.okDraw b o f) 11) (Pure.err (Pure.okIn lo hi d) 2)) (partV (Pure.ways b d o f) (Pure.sets b o))) ∧ Below w.heap.size w w' := by
  go_enter Tryz.func23, Tryz.ntmps23
  go_upto_region 1 with fail
  obtain ⟨W1, hW1⟩ : ∃ W1, ((w.alloc (.cells #[.int .i64 b, .int .i64 lo, .int .i64 hi] 28)).alloc (.cells #[.int .i64 o, .int .i64 f] 37)).alloc (.cells #[.int .i64 0, .int .i64 0] 31) = W1 := ⟨_, rfl⟩
  have HB1 : Hid (Below w.heap.size w W1) := by rw [← hW1]; exact Lib.hid ((((Below.refl _ _).alloc (Nat.le_refl _) _).alloc (by simp) _).alloc (by simp; omega) _)
  have HSZ : Hid (W1.heap.size = w.heap.size + 3) := by rw [← hW1]; exact Lib.hid (by simp)
  have e : ∀ j v, (#[Value.int .i64 b, .int .i64 lo, .int .i64 hi])[j]? = some v → W1.cell? ⟨w.heap.size, j, none⟩ = some v := by rw [← hW1]; intro j v h; exact cell_up (cell_up ((cells_top _ _ _ rfl j).trans h) _) _
  have g : ∀ j v, (#[Value.int .i64 o, .int .i64 f])[j]? = some v → W1.cell? ⟨w.heap.size + 1, j, none⟩ = some v := by rw [← hW1]; intro j v h; exact cell_up ((cells_top _ _ _ (by simp) j).trans h) _
  have r : ∀ j v, (#[Value.int .i64 0, .int .i64 0])[j]? = some v → W1.cell? ⟨w.heap.size + 1 + 1, j, none⟩ = some v := by rw [← hW1]; intro j v h; exact (cells_top _ _ _ (by simp) j).trans h
  have fr : ∀ j, W1.frozen? ⟨w.heap.size + 1 + 1, j, none⟩ = false := by rw [← hW1]; intro j; exact frozen_top _ _ _ (by simp) j
  rw [hW1]
  clear hW1
  have HK0 : Hid (W1.drew.cell? ⟨w.heap.size, 0, none⟩ = some (.int .i64 b) ∧ W1.drew.cell? ⟨w.heap.size, 1, none⟩ = some (.int .i64 lo) ∧ W1.drew.cell? ⟨w.heap.size, 2, none⟩ = some (.int .i64 hi) ∧ W1.drew.cell? ⟨w.heap.size + 1, 0, none⟩ = some (.int .i64 o) ∧ W1.drew.cell? ⟨w.heap.size + 1, 1, none⟩ = some (.int .i64 f) ∧ Below W1.heap.size W1 W1.drew) :=
    Lib.hid ⟨e 0 _ rfl, e 1 _ rfl, e 2 _ rfl, g 0 _ rfl, g 1 _ rfl, (Below.refl _ _).drew⟩
  have HKS : Hid (∀ u v : World, (u.cell? ⟨w.heap.size, 0, none⟩ = some (.int .i64 b) ∧ u.cell? ⟨w.heap.size, 1, none⟩ = some (.int .i64 lo) ∧ u.cell? ⟨w.heap.size, 2, none⟩ = some (.int .i64 hi) ∧ u.cell? ⟨w.heap.size + 1, 0, none⟩ = some (.int .i64 o) ∧ u.cell? ⟨w.heap.size + 1, 1, none⟩ = some (.int .i64 f) ∧ Below W1.heap.size W1 u) → Below u.heap.size u v →
      (v.cell? ⟨w.heap.size, 0, none⟩ = some (.int .i64 b) ∧ v.cell? ⟨w.heap.size, 1, none⟩ = some (.int .i64 lo) ∧ v.cell? ⟨w.heap.size, 2, none⟩ = some (.int .i64 hi) ∧ v.cell? ⟨w.heap.size + 1, 0, none⟩ = some (.int .i64 o) ∧ v.cell? ⟨w.heap.size + 1, 1, none⟩ = some (.int .i64 f) ∧ Below W1.heap.size W1 v)) :=
    Lib.hid (fun u v h k => ⟨below_cell k h.1, below_cell k h.2.1, below_cell k h.2.2.1, below_cell k h.2.2.2.1, below_cell k h.2.2.2.2.1, h.2.2.2.2.2.trans (k.mono h.2.2.2.2.2.size)⟩)
  have HE := Lib.hid e
  have HG := Lib.hid g
  have HR := Lib.hid r
  have HFR := Lib.hid fr
  clear e g r fr
  go_cut [8] (fun s wx => s = .int .i64 (Pure.first3 (Pure.err (Pure.okCargo b lo hi) 10) (Pure.err (Pure.okDraw b o f) 11) (Pure.err (Pure.okIn lo hi d) 2)) ∧ Below W1.heap.size W1 wx)
  case first =>
    go_region_held3 (fun w' => w'.cell? ⟨w.heap.size, 0, none⟩ = some (.int .i64 b) ∧ w'.cell? ⟨w.heap.size, 1, none⟩ = some (.int .i64 lo) ∧ w'.cell? ⟨w.heap.size, 2, none⟩ = some (.int .i64 hi) ∧ w'.cell? ⟨w.heap.size + 1, 0, none⟩ = some (.int .i64 o) ∧ w'.cell? ⟨w.heap.size + 1, 1, none⟩ = some (.int .i64 f) ∧ Below W1.heap.size W1 w')
      (first | exact HK0.out | exact HKS.out _ _ (by assumption) (by assumption) | exact HKS.out _ _ (by assumption) ((Below.refl _ _).alloc (Nat.le_refl _) _))
      (first
        | (go_at_call 29; refine (check_any _ _ _ _).mono ?_; rintro e w' ⟨rfl, hb⟩)
        | (go_at_call 58; refine (checkDraw_any _ _ _ _).mono ?_; rintro e w' ⟨rfl, hb⟩)
        | (go_at_call 33; refine (checkDirty1 _ _ _ d _ _ _ ?_).mono ?_; (first | exact cell_top _ _ _ rfl | (refine below_cell (by assumption) ?_; (first | exact cell_top _ _ _ rfl | exact cell_top_drew _ _ _ rfl | (refine below_cell (by assumption) ?_; (first | exact cell_top _ _ _ rfl | exact cell_top_drew _ _ _ rfl))))); rintro e w' ⟨rfl, hb⟩)
        | (go_at_call 32; refine (firstError3 (Pure.err (Pure.okCargo b lo hi) 10) (Pure.err (Pure.okDraw b o f) 11) (Pure.err (Pure.okIn lo hi d) 2) _ _ _ (cells_top _ _ _ rfl 0) (cells_top _ _ _ rfl 1) (cells_top _ _ _ rfl 2)).mono ?_; rintro e w' ⟨rfl, hb⟩))
    all_goals (go_wp2_with fail; go_meet; refine ⟨rfl, ?_⟩; exact And.right (And.right (And.right (And.right (And.right (by assumption))))))
  case rest =>
    obtain ⟨rfl, hBc⟩ := hcut
    obtain ⟨code, hcode⟩ : ∃ c, Pure.first3 (Pure.err (Pure.okCargo b lo hi) 10) (Pure.err (Pure.okDraw b o f) 11) (Pure.err (Pure.okIn lo hi d) 2) = c := ⟨_, rfl⟩
    rw [hcode]
    have r0 := below_cell hBc (HR.out 0 _ rfl)
    have r1 := below_cell hBc (HR.out 1 _ rfl)
    have f0 := below_frozen hBc (HR.out 0 _ rfl) (HFR.out 0)
    have f1 := below_frozen hBc (HR.out 1 _ rfl) (HFR.out 1)
    have HBC := Lib.hid hBc
    have HCODE := Lib.hid hcode
    clear hBc hcode HK0 HKS
    by_cases h0 : code = 0
    · subst h0
      obtain ⟨q1, q2, q3⟩ := Pure.first3_zero HCODE.out
      have q1 := Pure.err_zero q1 (by decide)
      have q2 := Pure.err_zero q2 (by decide)
      have q3 := Pure.err_zero q3 (by decide)
      unfold Pure.okCargo at q1
      unfold Pure.okDraw at q2
      unfold Pure.okIn at q3
      simp only [decide_eq_true_eq] at q1 q2 q3
      obtain ⟨b1, b2, b3, b4, b5⟩ := q1
      obtain ⟨o1, o2, o3, o4⟩ := q2
      obtain ⟨d1, d2⟩ := q3
      have c0 := below_cell HBC.out (HE.out 0 _ rfl)
      have c1 := below_cell HBC.out (HE.out 1 _ rfl)
      have c2 := below_cell HBC.out (HE.out 2 _ rfl)
      have g0 := below_cell HBC.out (HG.out 0 _ rfl)
      have g1 := below_cell HBC.out (HG.out 1 _ rfl)
      go_wp2_with fail
      refine (work_any b lo hi _).mono ?_
      rintro e w2 ⟨M, T, C, rfl, hMw, hw2, hB2⟩
      have k0 := below_cell hB2 g0
      have k1 := below_cell hB2 g1
      have k2 := below_cell hB2 r0
      have k3 := below_cell hB2 r1
      have m2 := below_frozen hB2 r0 f0
      have m3 := below_frozen hB2 r1 f1
      have HMW := Lib.hid hMw
      have HB2 := Lib.hid hB2
      have HW2 := Lib.hid hw2
      clear hMw hB2 hw2 c0 c1 c2 g0 g1 r0 r1 f0 f1
      go_wp2_with fail
      obtain ⟨W2, hW2⟩ : ∃ W2, w2.alloc (.cells #[.int .i64 b, .int .i64 lo, .int .i64 hi, setsV T C] 82) = W2 := ⟨_, rfl⟩
      have HS2 : Hid (Step M w2 W2) := by rw [← hW2]; exact Lib.hid ((Step.refl HW2.out.memo).alloc _)
      have HW3 : Hid (Cnt W2 M T C) := Lib.hid (HW2.out.step HS2.out)
      have e : ∀ j v, (#[Value.int .i64 b, .int .i64 lo, .int .i64 hi, setsV T C])[j]? = some v → W2.cell? ⟨w2.heap.size, j, none⟩ = some v := by rw [← hW2]; intro j v h; exact (cells_top _ _ _ rfl j).trans h
      rw [hW2]
      have hm := HW2.out.memo
      have x0 := among_cell HW3.out.memo (e 0 _ rfl)
      have x1 := among_cell HW3.out.memo (e 1 _ rfl)
      have x2 := among_cell HW3.out.memo (e 2 _ rfl)
      have x3 := among_cell HW3.out.memo (e 3 _ rfl)
      have y0 := among_cell HW3.out.memo (HS2.out.cell k0 (cell_not_map hm k0))
      have y1 := among_cell HW3.out.memo (HS2.out.cell k1 (cell_not_map hm k1))
      have n2 := HS2.out.cell k2 (cell_not_map hm k2)
      have n3 := HS2.out.cell k3 (cell_not_map hm k3)
      have l2 := HS2.out.frozen k2 (cell_not_map hm k2) m2
      have l3 := HS2.out.frozen k3 (cell_not_map hm k3) m3
      have N2 := Lib.hid n2
      have N3 := Lib.hid n3
      have L2 := Lib.hid l2
      have L3 := Lib.hid l3
      clear hW2 e hm k0 k1 k2 k3 m2 m3 n2 n3 l2 l3
      have HC1 : Hid (∀ x : Among (Step M W2), Calls Tryz.prog 60 #[holdV b lo hi T C, .int .i64 d, .agg #[.int .i64 o, .int .i64 f]] x.val fun e w' => e = .returned (.int .i64 (Pure.ways b d o f)) ∧ ∃ y : Among (Step M W2), w' = y.val) :=
        Lib.hid (fun x => calls_class ((ways_any b lo hi d o f (by omega) b2 (by omega) (by omega) (by omega) o1 (by omega) o3 (by omega) x.val (HW3.out.step x.ok)).mono fun e w' h => ⟨h.1, x.ok.trans h.2⟩))
      have HC2 : Hid (∀ x : Among (Step M W2), Calls Tryz.prog 39 #[holdV b lo hi T C, .int .i64 o] x.val fun e w' => e = .returned (.int .i64 (Pure.sets b o)) ∧ ∃ y : Among (Step M W2), w' = y.val) :=
        Lib.hid (fun x => calls_class ((draws_any b lo hi o b2 x.val (HW3.out.step x.ok)).mono fun e w' h => ⟨h.1, x.ok.trans h.2⟩))
      have HC3 : Hid (∀ x : Among (Step M W2), Calls Tryz.prog 38 #[.int .i64 (Pure.ways b d o f), .int .i64 (Pure.sets b o)] x.val fun e w' => e = .returned (partV (Pure.ways b d o f) (Pure.sets b o)) ∧ ∃ y : Among (Step M W2), w' = y.val) :=
        Lib.hid (fun x => calls_class ((part_any _ _ (Pure.ways_nonneg _ _ _ _) (Int.le_trans (Pure.ways_le b2) (by decide)) (Pure.sets_pos o1 o2) (Int.le_trans (Pure.sets_le b2) (by decide)) x.val).mono fun e w' h => ⟨h.1, x.ok.trans (Step.of_below h.2 x.ok.memo)⟩))
      have HSt : Hid (Step M W2 W2.drew) := Lib.hid (Step.refl HW3.out.memo).drew
      have hne : Nonempty (Among (Step M W2)) := ⟨⟨_, HSt.out⟩⟩
      refine wp_region_tail 9 (Step M W2) (by kernel_rfl) (by kernel_rfl) HSt.out ?_
      simp only [List.take_succ_cons, List.take_zero, List.drop_succ_cons, List.drop_zero]
      repeat (go_big_quiet_step ((first | (go_at_call 60; exact HC1.out _) | (go_at_call 39; exact HC2.out _) | (go_at_call 38; exact HC3.out _))))
      refine wpQuiet_nil ?_
      intro w3 hx
      have hS3 := among_out hx
      clear hx
      have r0 := hS3.cell N2.out (cell_not_map HW3.out.memo N2.out)
      have r1 := hS3.cell N3.out (cell_not_map HW3.out.memo N3.out)
      have f0 := hS3.frozen N2.out (cell_not_map HW3.out.memo N2.out) L2.out
      have f1 := hS3.frozen N3.out (cell_not_map HW3.out.memo N3.out) L3.out
      have HS3 := Lib.hid hS3
      clear hS3 hne x0 x1 x2 x3 y0 y1
      go_wp2_with fail
      refine bodyPost_ret (v := .tuple #[partV (Pure.ways b d o f) (Pure.sets b o), .int .i64 0]) (by simp [results, Tryz.results23, go_sem, r0, r1]) rfl ⟨?_, ?_⟩
      · rw [HCODE.out, Pure.res2_zero rfl]
      · have z1 := HSZ.out
        have z2 := HBC.out.size
        have z3 := HB2.out.size
        have z4 := HMW.out
        have hB : Below w.heap.size w w3 := below_step ((HB1.out.trans (HBC.out.mono (by omega))).trans (HB2.out.mono (by omega))) (HS2.out.trans HS3.out) (by omega) (by omega)
        exact (hB.setCell (p := ⟨w.heap.size + 1 + 1, 0, none⟩) (by simp; omega) _).setCell (p := ⟨w.heap.size + 1 + 1, 1, none⟩) (by simp; omega) _
    · have hne : (code != 0) = true := by simpa using h0
      have H0 := Lib.hid h0
      clear h0
      go_wp2_with fail
      refine bodyPost_ret (v := .tuple #[.agg #[.int .i64 0, .int .i64 0], .int .i64 code]) (by simp [results, Tryz.results23, go_sem, r0, r1]) rfl ⟨?_, ?_⟩
      · rw [HCODE.out, Pure.res2_err H0.out]
      · exact ((HB1.out.trans (HBC.out.mono (by have := HSZ.out; omega))).setCell (p := ⟨w.heap.size + 1 + 1, 0, none⟩) (by simp; omega) _).setCell (p := ⟨w.heap.size + 1 + 1, 1, none⟩) (by simp; omega) _

end Go.Proofs.YtjegkkpdemoldaaGreatDoor
