/-
  The contracts of the specification's own Chance, AtMost and Mean.
-/
import Derived.Test.YteckpbghmhelpaaRefB
namespace Go.Proofs.Yteckpbghmhelpaa
open Go.RowKit Go.Shelf

theorem among_below {W : World} {a : Addr} {v : Value} (h : W.cell? a = some v) (x : Among (Below W.heap.size W)) : x.val.cell? a = some v := below_cell x.ok h

set_option maxHeartbeats 2000000 in
set_option maxRecDepth 100000 in
theorem rChance_any (b lo hi d o f : Int) (w : World) :
    Calls Try.prog 17 #[cargoV b lo hi, .int .i64 d, .agg #[.int .i64 o, .int .i64 f]] w fun e w' => e = .returned (Pure.res2 (Pure.first3 (Pure.err (Pure.okCargo b lo hi) 10) (Pure.err (Pure.okDraw b o f) 11) (Pure.err (Pure.okIn lo hi d) 2)) (partV (Pure.ways b d o f) (Pure.sets b o))) ∧ Below w.heap.size w w' := by
  go_enter Try.func17, Try.ntmps17
  go_wp2_with fail
  obtain ⟨W1, hW1⟩ : ∃ W1, ((w.alloc (.cells #[.int .i64 b, .int .i64 lo, .int .i64 hi] 25)).alloc (.cells #[.int .i64 o, .int .i64 f] 27)).alloc (.cells #[.int .i64 0, .int .i64 0] 34) = W1 := ⟨_, rfl⟩
  have HB1 : Hid (Below w.heap.size w W1) := by rw [← hW1]; exact Lib.hid ((((Below.refl _ _).alloc (Nat.le_refl _) _).alloc (by simp) _).alloc (by simp; omega) _)
  have HSZ : Hid (W1.heap.size = w.heap.size + 3) := by rw [← hW1]; exact Lib.hid (by simp)
  have e : ∀ j v, (#[Value.int .i64 b, .int .i64 lo, .int .i64 hi])[j]? = some v → W1.cell? ⟨w.heap.size, j, none⟩ = some v := by rw [← hW1]; intro j v h; exact cell_up (cell_up ((cells_top _ _ _ rfl j).trans h) _) _
  have g : ∀ j v, (#[Value.int .i64 o, .int .i64 f])[j]? = some v → W1.cell? ⟨w.heap.size + 1, j, none⟩ = some v := by rw [← hW1]; intro j v h; exact cell_up ((cells_top _ _ _ (by simp) j).trans h) _
  have r : ∀ j v, (#[Value.int .i64 0, .int .i64 0])[j]? = some v → W1.cell? ⟨w.heap.size + 1 + 1, j, none⟩ = some v := by rw [← hW1]; intro j v h; exact (cells_top _ _ _ (by simp) j).trans h
  have fr : ∀ j, W1.frozen? ⟨w.heap.size + 1 + 1, j, none⟩ = false := by rw [← hW1]; intro j; exact frozen_top _ _ _ (by simp) j
  rw [hW1]
  clear hW1
  have HE := Lib.hid e
  have HG := Lib.hid g
  have HR := Lib.hid r
  have HFR := Lib.hid fr
  clear e g r fr
  refine (rDrawn_any b lo hi d o f _).mono ?_
  rintro e wc ⟨rfl, hBc⟩
  obtain ⟨code, hcode⟩ : ∃ c, Pure.first3 (Pure.err (Pure.okCargo b lo hi) 10) (Pure.err (Pure.okDraw b o f) 11) (Pure.err (Pure.okIn lo hi d) 2) = c := ⟨_, rfl⟩
  rw [hcode]
  have r0 := below_cell hBc (HR.out 0 _ rfl)
  have r1 := below_cell hBc (HR.out 1 _ rfl)
  have f0 := below_frozen hBc (HR.out 0 _ rfl) (HFR.out 0)
  have f1 := below_frozen hBc (HR.out 1 _ rfl) (HFR.out 1)
  have HBC := Lib.hid hBc
  have HCODE := Lib.hid hcode
  clear hBc hcode
  by_cases h0 : code = 0
  · subst h0
    obtain ⟨q1, q2, q3⟩ := Pure.first3_zero HCODE.out
    have q1 := Pure.err_zero q1 (by decide)
    have q2 := Pure.err_zero q2 (by decide)
    have q3 := Pure.err_zero q3 (by decide)
    unfold Pure.okCargo at q1
    unfold Pure.okDraw at q2
    unfold Pure.okIn at q3
    simp only [decide_eq_true_eq] at q1 q2 q3
    obtain ⟨b1, b2, b3, b4, b5⟩ := q1
    obtain ⟨o1, o2, o3, o4⟩ := q2
    obtain ⟨d1, d2⟩ := q3
    have x0 := among_below (below_cell HBC.out (HE.out 0 _ rfl))
    have y0 := among_below (below_cell HBC.out (HG.out 0 _ rfl))
    have y1 := among_below (below_cell HBC.out (HG.out 1 _ rfl))
    have R0 := Lib.hid r0
    have R1 := Lib.hid r1
    have F0 := Lib.hid f0
    have F1 := Lib.hid f1
    clear r0 r1 f0 f1
    have HC1 : Hid (∀ x : Among (Below wc.heap.size wc), Calls Try.prog 76 #[.int .i64 b, .int .i64 d, .int .i64 o, .int .i64 f] x.val fun e w' => e = .returned (.int .i64 (Pure.ways b d o f)) ∧ ∃ y : Among (Below wc.heap.size wc), w' = y.val) :=
      Lib.hid (fun x => calls_class ((rCount_any b d o f (by omega) b2 (by omega) (by omega) (by omega) o1 (by omega) (by omega) (by omega) x.val).mono fun e w' h => ⟨h.1, h.2 ▸ x.ok⟩))
    have HC2 : Hid (∀ x : Among (Below wc.heap.size wc), Calls Try.prog 56 #[.int .i64 b, .int .i64 o] x.val fun e w' => e = .returned (.int .i64 (Pure.sets b o)) ∧ ∃ y : Among (Below wc.heap.size wc), w' = y.val) :=
      Lib.hid (fun x => calls_class ((choose_any b o b2 x.val).mono fun e w' h => ⟨h.1, h.2 ▸ x.ok⟩))
    have HC3 : Hid (∀ x : Among (Below wc.heap.size wc), Calls Try.prog 59 #[.int .i64 (Pure.ways b d o f), .int .i64 (Pure.sets b o)] x.val fun e w' => e = .returned (partV (Pure.ways b d o f) (Pure.sets b o)) ∧ ∃ y : Among (Below wc.heap.size wc), w' = y.val) :=
      Lib.hid (fun x => calls_class ((rLeast_any _ _ (Pure.ways_nonneg _ _ _ _) (Int.le_trans (Pure.ways_le b2) (by decide)) (Pure.sets_pos o1 o2) (Int.le_trans (Pure.sets_le b2) (by decide)) x.val).mono fun e w' h => ⟨h.1, x.ok.trans (h.2.mono x.ok.size)⟩))
    have HSt : Hid (Below wc.heap.size wc wc.drew) := Lib.hid (Below.refl _ _).drew
    have hne : Nonempty (Among (Below wc.heap.size wc)) := ⟨⟨_, HSt.out⟩⟩
    go_wp2_with fail
    refine wp_region_tail 14 (Below wc.heap.size wc) (by kernel_rfl) (by kernel_rfl) HSt.out ?_
    simp only [List.take_succ_cons, List.take_zero, List.drop_succ_cons, List.drop_zero]
    repeat (go_big_quiet_step ((first | (go_at_call 76; exact HC1.out _) | (go_at_call 56; exact HC2.out _) | (go_at_call 59; exact HC3.out _))))
    refine wpQuiet_nil ?_
    intro w3 hx
    have hB3 := among_out hx
    clear hx
    have r0 := below_cell hB3 R0.out
    have r1 := below_cell hB3 R1.out
    have f0 := below_frozen hB3 R0.out F0.out
    have f1 := below_frozen hB3 R1.out F1.out
    have HB3 := Lib.hid hB3
    clear hB3 hne x0 y0 y1
    go_wp2_with fail
    refine bodyPost_ret (v := .tuple #[partV (Pure.ways b d o f) (Pure.sets b o), .int .i64 0]) (by simp [results, Try.results17, go_sem, r0, r1]) rfl ⟨?_, ?_⟩
    · rw [HCODE.out, Pure.res2_zero rfl]
    · have z1 := HSZ.out
      have z2 := HBC.out.size
      have hB : Below w.heap.size w w3 := (HB1.out.trans (HBC.out.mono (by omega))).trans (HB3.out.mono (by omega))
      exact (hB.setCell (p := ⟨w.heap.size + 1 + 1, 0, none⟩) (by simp; omega) _).setCell (p := ⟨w.heap.size + 1 + 1, 1, none⟩) (by simp; omega) _
  · have hne : (code != 0) = true := by simpa using h0
    have H0 := Lib.hid h0
    clear h0
    go_wp2_with fail
    refine bodyPost_ret (v := .tuple #[.agg #[.int .i64 0, .int .i64 0], .int .i64 code]) (by simp [results, Try.results17, go_sem, r0, r1]) rfl ⟨?_, ?_⟩
    · rw [HCODE.out, Pure.res2_err H0.out]
    · exact ((HB1.out.trans (HBC.out.mono (by have := HSZ.out; omega))).setCell (p := ⟨w.heap.size + 1 + 1, 0, none⟩) (by simp; omega) _).setCell (p := ⟨w.heap.size + 1 + 1, 1, none⟩) (by simp; omega) _

set_option maxHeartbeats 2000000 in
set_option maxRecDepth 100000 in
theorem rAtMost_any (b lo hi d o f : Int) (w : World) :
    Calls Try.prog 19 #[cargoV b lo hi, .int .i64 d, .agg #[.int .i64 o, .int .i64 f]] w fun e w' => e = .returned (Pure.res2 (Pure.first3 (Pure.err (Pure.okCargo b lo hi) 10) (Pure.err (Pure.okDraw b o f) 11) (Pure.err (Pure.okIn lo hi d) 2)) (partV (Pure.few b d o f) (Pure.sets b o))) ∧ Below w.heap.size w w' := by
  go_enter Try.func19, Try.ntmps19
  go_wp2_with fail
  obtain ⟨W1, hW1⟩ : ∃ W1, ((w.alloc (.cells #[.int .i64 b, .int .i64 lo, .int .i64 hi] 25)).alloc (.cells #[.int .i64 o, .int .i64 f] 27)).alloc (.cells #[.int .i64 0, .int .i64 0] 34) = W1 := ⟨_, rfl⟩
  have HB1 : Hid (Below w.heap.size w W1) := by rw [← hW1]; exact Lib.hid ((((Below.refl _ _).alloc (Nat.le_refl _) _).alloc (by simp) _).alloc (by simp; omega) _)
  have HSZ : Hid (W1.heap.size = w.heap.size + 3) := by rw [← hW1]; exact Lib.hid (by simp)
  have e : ∀ j v, (#[Value.int .i64 b, .int .i64 lo, .int .i64 hi])[j]? = some v → W1.cell? ⟨w.heap.size, j, none⟩ = some v := by rw [← hW1]; intro j v h; exact cell_up (cell_up ((cells_top _ _ _ rfl j).trans h) _) _
  have g : ∀ j v, (#[Value.int .i64 o, .int .i64 f])[j]? = some v → W1.cell? ⟨w.heap.size + 1, j, none⟩ = some v := by rw [← hW1]; intro j v h; exact cell_up ((cells_top _ _ _ (by simp) j).trans h) _
  have r : ∀ j v, (#[Value.int .i64 0, .int .i64 0])[j]? = some v → W1.cell? ⟨w.heap.size + 1 + 1, j, none⟩ = some v := by rw [← hW1]; intro j v h; exact (cells_top _ _ _ (by simp) j).trans h
  have fr : ∀ j, W1.frozen? ⟨w.heap.size + 1 + 1, j, none⟩ = false := by rw [← hW1]; intro j; exact frozen_top _ _ _ (by simp) j
  rw [hW1]
  clear hW1
  have HE := Lib.hid e
  have HG := Lib.hid g
  have HR := Lib.hid r
  have HFR := Lib.hid fr
  clear e g r fr
  refine (rDrawn_any b lo hi d o f _).mono ?_
  rintro e wc ⟨rfl, hBc⟩
  obtain ⟨code, hcode⟩ : ∃ c, Pure.first3 (Pure.err (Pure.okCargo b lo hi) 10) (Pure.err (Pure.okDraw b o f) 11) (Pure.err (Pure.okIn lo hi d) 2) = c := ⟨_, rfl⟩
  rw [hcode]
  have r0 := below_cell hBc (HR.out 0 _ rfl)
  have r1 := below_cell hBc (HR.out 1 _ rfl)
  have f0 := below_frozen hBc (HR.out 0 _ rfl) (HFR.out 0)
  have f1 := below_frozen hBc (HR.out 1 _ rfl) (HFR.out 1)
  have HBC := Lib.hid hBc
  have HCODE := Lib.hid hcode
  clear hBc hcode
  by_cases h0 : code = 0
  · subst h0
    obtain ⟨q1, q2, q3⟩ := Pure.first3_zero HCODE.out
    have q1 := Pure.err_zero q1 (by decide)
    have q2 := Pure.err_zero q2 (by decide)
    have q3 := Pure.err_zero q3 (by decide)
    unfold Pure.okCargo at q1
    unfold Pure.okDraw at q2
    unfold Pure.okIn at q3
    simp only [decide_eq_true_eq] at q1 q2 q3
    obtain ⟨b1, b2, b3, b4, b5⟩ := q1
    obtain ⟨o1, o2, o3, o4⟩ := q2
    obtain ⟨d1, d2⟩ := q3
    have x0 := among_below (below_cell HBC.out (HE.out 0 _ rfl))
    have y0 := among_below (below_cell HBC.out (HG.out 0 _ rfl))
    have y1 := among_below (below_cell HBC.out (HG.out 1 _ rfl))
    have R0 := Lib.hid r0
    have R1 := Lib.hid r1
    have F0 := Lib.hid f0
    have F1 := Lib.hid f1
    clear r0 r1 f0 f1
    have HN : Hid (Pure.few b d o f = Pure.fewTo b d o (f + 1).toNat) := Lib.hid (Pure.few_eq o3 o4)
    have HC1 : Hid (∀ x : Among (Below wc.heap.size wc), Calls Try.prog 78 #[.int .i64 b, .int .i64 d, .int .i64 o, .int .i64 f] x.val fun e w' => e = .returned (.int .i64 (Pure.fewTo b d o (f + 1).toNat)) ∧ ∃ y : Among (Below wc.heap.size wc), w' = y.val) :=
      Lib.hid (fun x => calls_class ((rFew_any b d o f (by omega) b2 (by omega) (by omega) (by omega) o1 (by omega) (by omega) (by omega) x.val).mono fun e w' h => ⟨h.1, h.2 ▸ x.ok⟩))
    have HC2 : Hid (∀ x : Among (Below wc.heap.size wc), Calls Try.prog 56 #[.int .i64 b, .int .i64 o] x.val fun e w' => e = .returned (.int .i64 (Pure.sets b o)) ∧ ∃ y : Among (Below wc.heap.size wc), w' = y.val) :=
      Lib.hid (fun x => calls_class ((choose_any b o b2 x.val).mono fun e w' h => ⟨h.1, h.2 ▸ x.ok⟩))
    have HC3 : Hid (∀ x : Among (Below wc.heap.size wc), Calls Try.prog 59 #[.int .i64 (Pure.fewTo b d o (f + 1).toNat), .int .i64 (Pure.sets b o)] x.val fun e w' => e = .returned (partV (Pure.fewTo b d o (f + 1).toNat) (Pure.sets b o)) ∧ ∃ y : Among (Below wc.heap.size wc), w' = y.val) :=
      Lib.hid (fun x => calls_class ((rLeast_any _ _ (Pure.fewTo_nonneg _ _ _ _) (by rw [← HN.out]; exact Int.le_trans (Pure.few_le b2 (by omega)) (by decide)) (Pure.sets_pos o1 o2) (Int.le_trans (Pure.sets_le b2) (by decide)) x.val).mono fun e w' h => ⟨h.1, x.ok.trans (h.2.mono x.ok.size)⟩))
    have HSt : Hid (Below wc.heap.size wc wc.drew) := Lib.hid (Below.refl _ _).drew
    have hne : Nonempty (Among (Below wc.heap.size wc)) := ⟨⟨_, HSt.out⟩⟩
    go_wp2_with fail
    refine wp_region_tail 14 (Below wc.heap.size wc) (by kernel_rfl) (by kernel_rfl) HSt.out ?_
    simp only [List.take_succ_cons, List.take_zero, List.drop_succ_cons, List.drop_zero]
    repeat (go_big_quiet_step ((first | (go_at_call 78; exact HC1.out _) | (go_at_call 56; exact HC2.out _) | (go_at_call 59; exact HC3.out _))))
    refine wpQuiet_nil ?_
    intro w3 hx
    have hB3 := among_out hx
    clear hx
    have r0 := below_cell hB3 R0.out
    have r1 := below_cell hB3 R1.out
    have f0 := below_frozen hB3 R0.out F0.out
    have f1 := below_frozen hB3 R1.out F1.out
    have HB3 := Lib.hid hB3
    clear hB3 hne x0 y0 y1
    go_wp2_with fail
    refine bodyPost_ret (v := .tuple #[partV (Pure.fewTo b d o (f + 1).toNat) (Pure.sets b o), .int .i64 0]) (by simp [results, Try.results19, go_sem, r0, r1]) rfl ⟨?_, ?_⟩
    · rw [HCODE.out, Pure.res2_zero rfl, HN.out]
    · have z1 := HSZ.out
      have z2 := HBC.out.size
      have hB : Below w.heap.size w w3 := (HB1.out.trans (HBC.out.mono (by omega))).trans (HB3.out.mono (by omega))
      exact (hB.setCell (p := ⟨w.heap.size + 1 + 1, 0, none⟩) (by simp; omega) _).setCell (p := ⟨w.heap.size + 1 + 1, 1, none⟩) (by simp; omega) _
  · have hne : (code != 0) = true := by simpa using h0
    have H0 := Lib.hid h0
    clear h0
    go_wp2_with fail
    refine bodyPost_ret (v := .tuple #[.agg #[.int .i64 0, .int .i64 0], .int .i64 code]) (by simp [results, Try.results19, go_sem, r0, r1]) rfl ⟨?_, ?_⟩
    · rw [HCODE.out, Pure.res2_err H0.out]
    · exact ((HB1.out.trans (HBC.out.mono (by have := HSZ.out; omega))).setCell (p := ⟨w.heap.size + 1 + 1, 0, none⟩) (by simp; omega) _).setCell (p := ⟨w.heap.size + 1 + 1, 1, none⟩) (by simp; omega) _

set_option maxHeartbeats 2000000 in
set_option maxRecDepth 100000 in
theorem rMean_any (b lo hi d o : Int) (w : World) :
    Calls Try.prog 21 #[cargoV b lo hi, .int .i64 d, .int .i64 o] w fun e w' => e = .returned (Pure.res2 (Pure.first3 (Pure.err (Pure.okCargo b lo hi) 10) (Pure.err (Pure.okIn lo hi d) 2) (Pure.err (Pure.okIn 0 b o) 2)) (partV (Pure.total b d o) (Pure.sets b o))) ∧ Below w.heap.size w w' := by
  obtain ⟨r1, h1⟩ : ∃ r, Pure.okCargo b lo hi = r := ⟨_, rfl⟩
  obtain ⟨r2, h2⟩ : ∃ r, Pure.okIn lo hi d = r := ⟨_, rfl⟩
  obtain ⟨r3, h3⟩ : ∃ r, Pure.okIn 0 b o = r := ⟨_, rfl⟩
  have h4 : (decide (0 ≤ o) && decide (o ≤ b)) = r3 := by rw [← h3]; unfold Pure.okIn; rw [Bool.eq_iff_iff]; simp
  have H1 := Lib.hid h1
  have H2 := Lib.hid h2
  have H3 := Lib.hid h3
  have H4 := Lib.hid h4
  clear h1 h2 h3 h4
  go_enter Try.func21, Try.ntmps21
  go_wp2_with fail
  obtain ⟨W1, hW1⟩ : ∃ W1, (w.alloc (.cells #[.int .i64 b, .int .i64 lo, .int .i64 hi] 25)).alloc (.cells #[.int .i64 0, .int .i64 0] 34) = W1 := ⟨_, rfl⟩
  have HB1 : Hid (Below w.heap.size w W1) := by rw [← hW1]; exact Lib.hid (((Below.refl _ _).alloc (Nat.le_refl _) _).alloc (by simp) _)
  have HSZ : Hid (W1.heap.size = w.heap.size + 2) := by rw [← hW1]; exact Lib.hid (by simp)
  have e : ∀ j v, (#[Value.int .i64 b, .int .i64 lo, .int .i64 hi])[j]? = some v → W1.cell? ⟨w.heap.size, j, none⟩ = some v := by rw [← hW1]; intro j v h; exact cell_up ((cells_top _ _ _ rfl j).trans h) _
  have r : ∀ j v, (#[Value.int .i64 0, .int .i64 0])[j]? = some v → W1.cell? ⟨w.heap.size + 1, j, none⟩ = some v := by rw [← hW1]; intro j v h; exact (cells_top _ _ _ (by simp) j).trans h
  have fr : ∀ j, W1.frozen? ⟨w.heap.size + 1, j, none⟩ = false := by rw [← hW1]; intro j; exact frozen_top _ _ _ (by simp) j
  rw [hW1]
  clear hW1
  refine (rCargo_any b lo hi _).mono ?_
  rintro e2 w' ⟨rfl, rfl⟩
  rw [H1.out]
  have e0 := cell_up (e 0 _ rfl) (.cells #[.int .i64 b, .int .i64 lo, .int .i64 hi] 25)
  have e1 := cell_up (e 1 _ rfl) (.cells #[.int .i64 b, .int .i64 lo, .int .i64 hi] 25)
  have e2 := cell_up (e 2 _ rfl) (.cells #[.int .i64 b, .int .i64 lo, .int .i64 hi] 25)
  have r0 := cell_up (r 0 _ rfl) (.cells #[.int .i64 b, .int .i64 lo, .int .i64 hi] 25)
  have r1' := cell_up (r 1 _ rfl) (.cells #[.int .i64 b, .int .i64 lo, .int .i64 hi] 25)
  have hBa : Below W1.heap.size W1 (W1.alloc (.cells #[.int .i64 b, .int .i64 lo, .int .i64 hi] 25)) := (Below.refl _ _).alloc (Nat.le_refl _) _
  have f0 := below_frozen hBa (r 0 _ rfl) (fr 0)
  have f1 := below_frozen hBa (r 1 _ rfl) (fr 1)
  obtain ⟨W2, hW2⟩ : ∃ W2, W1.alloc (.cells #[.int .i64 b, .int .i64 lo, .int .i64 hi] 25) = W2 := ⟨_, rfl⟩
  rw [hW2] at e0 e1 e2 r0 r1' f0 f1 hBa ⊢
  have HB2 : Hid (Below w.heap.size w W2) := Lib.hid (HB1.out.trans (hBa.mono (by have := HSZ.out; omega)))
  have HSZ2 : Hid (w.heap.size + 2 ≤ W2.heap.size) := Lib.hid (by have := HSZ.out; have := hBa.size; omega)
  clear hW2 hBa e r fr
  cases r1
  · go_wp2_with fail
    refine bodyPost_ret (v := .tuple #[.agg #[.int .i64 0, .int .i64 0], .int .i64 10]) (by simp [results, Try.results21, go_sem, r0, r1']) rfl ⟨?_, ?_⟩
    · rw [H1.out, Pure.first3_1 _ _ (by decide), Pure.res2_err (by decide)]
    · exact (HB2.out.setCell (p := ⟨w.heap.size + 1, 0, none⟩) (by simp) _).setCell (p := ⟨w.heap.size + 1, 1, none⟩) (by simp) _
  · go_wp2_with fail
    refine (rMay_any b lo hi d _).mono ?_
    rintro e3 w' ⟨rfl, rfl⟩
    rw [H2.out]
    have k0 := cell_up e0 (.cells #[.int .i64 b, .int .i64 lo, .int .i64 hi] 25)
    have k2 := cell_up r0 (.cells #[.int .i64 b, .int .i64 lo, .int .i64 hi] 25)
    have k3 := cell_up r1' (.cells #[.int .i64 b, .int .i64 lo, .int .i64 hi] 25)
    have hBb : Below W2.heap.size W2 (W2.alloc (.cells #[.int .i64 b, .int .i64 lo, .int .i64 hi] 25)) := (Below.refl _ _).alloc (Nat.le_refl _) _
    have m2 := below_frozen hBb r0 f0
    have m3 := below_frozen hBb r1' f1
    obtain ⟨W3, hW3⟩ : ∃ W3, W2.alloc (.cells #[.int .i64 b, .int .i64 lo, .int .i64 hi] 25) = W3 := ⟨_, rfl⟩
    rw [hW3] at k0 k2 k3 m2 m3 hBb ⊢
    have HB3 : Hid (Below w.heap.size w W3) := Lib.hid (HB2.out.trans (hBb.mono (by have := HSZ2.out; omega)))
    have HSZ3 : Hid (w.heap.size + 2 ≤ W3.heap.size) := Lib.hid (by have := HSZ2.out; have := hBb.size; omega)
    clear hW3 hBb e0 e1 e2 r0 r1' f0 f1
    cases r2
    · go_wp2_with fail
      refine bodyPost_ret (v := .tuple #[.agg #[.int .i64 0, .int .i64 0], .int .i64 2]) (by simp [results, Try.results21, go_sem, k2, k3]) rfl ⟨?_, ?_⟩
      · rw [H1.out, H2.out, Pure.first3_2 _ _ (by decide), Pure.res2_err (by decide)]
      · exact (HB3.out.setCell (p := ⟨w.heap.size + 1, 0, none⟩) (by simp) _).setCell (p := ⟨w.heap.size + 1, 1, none⟩) (by simp) _
    · go_wp2_with fail
      refine (rWithin_any o 0 b _ H4.out _).mono ?_
      rintro e4 w' ⟨rfl, rfl⟩
      cases r3
      · go_wp2_with fail
        refine bodyPost_ret (v := .tuple #[.agg #[.int .i64 0, .int .i64 0], .int .i64 2]) (by simp [results, Try.results21, go_sem, k2, k3]) rfl ⟨?_, ?_⟩
        · rw [H1.out, H2.out, H3.out, Pure.first3_3 _ _ (by decide), Pure.res2_err (by decide)]
        · exact (HB3.out.setCell (p := ⟨w.heap.size + 1, 0, none⟩) (by simp) _).setCell (p := ⟨w.heap.size + 1, 1, none⟩) (by simp) _
      · have q1 := H1.out
        have q2 := H2.out
        have q3 := H3.out
        unfold Pure.okCargo at q1
        unfold Pure.okIn at q2 q3
        simp only [decide_eq_true_eq] at q1 q2 q3
        obtain ⟨b1, b2, b3, b4, b5⟩ := q1
        obtain ⟨d1, d2⟩ := q2
        obtain ⟨o1, o2⟩ := q3
        obtain ⟨n, rfl⟩ : ∃ n : Nat, o = n := ⟨o.toNat, by omega⟩
        have HT : Hid (Pure.total b d n = Pure.sumTo b d n (fun j => j) (n + 1)) := Lib.hid (by unfold Pure.total Pure.sum; congr 1)
        go_wp2_with fail
        go_loop [8, 9] (fun s t => ∃ k : Nat, k ≤ n + 1 ∧ s = .int .i64 (Pure.sumTo b d n (fun j => j) k) ∧ t = .int .i64 k) (fun _ t => n + 1 - (intOf t).toNat)
        case atStart => exact ⟨0, Nat.zero_le _, rfl, rfl⟩
        case round =>
          obtain ⟨k, hk, rfl, rfl⟩ := hrel
          by_cases hlt : k < n + 1
          · have p1 := Pure.sumTo_nonneg (b := b) (d := d) (o := n) (f := fun j => j) (n := n + 1) (fun j _ => by omega) k hk
            have p2 := Pure.sumTo_le (b := b) (d := d) (o := n) (f := fun j => j) (n := n + 1) (B := 2473901162496) (fun j hj => Pure.mul_le36 (Pure.ways_nonneg b d n j) (Pure.ways_le b2) (by omega)) k hk
            have p3 : Pure.sumTo b d n (fun j => j) k ≤ 91534343012352 := by omega
            have p4 : 0 ≤ (k : Int) * Pure.ways b d n k := Int.mul_nonneg (by omega) (Pure.ways_nonneg _ _ _ _)
            have p5 : (k : Int) * Pure.ways b d n k ≤ 2473901162496 := by rw [Int.mul_comm]; exact Pure.mul_le36 (Pure.ways_nonneg b d n k) (Pure.ways_le b2) (by omega)
            have p6 : (k : Int) ≤ n := by omega
            clear p2
            go_wp2_with (go_at_call 76; refine (rCount_any b d n k (by omega) b2 (by omega) (by omega) (by omega) (by omega) (by omega) (by omega) (by omega) _).mono ?_; rintro e w' ⟨rfl, rfl⟩)
            go_round
            case rel => exact ⟨k + 1, by omega, by rw [Pure.sumTo_succ, Int.mul_comm (Pure.ways b d n k)], by go_num⟩
            case measure => simp [intOf]; omega
          · obtain rfl : k = n + 1 := by omega
            go_wp2_with fail
            refine (choose_any b n b2 _).mono ?_
            rintro e5 w' ⟨rfl, rfl⟩
            go_wp2_with fail
            have HT2 := HT.out
            refine (rLeast_any (Pure.sumTo b d n (fun j => j) (n + 1)) _ (by rw [← HT2]; exact Pure.total_nonneg) (by rw [← HT2]; exact Int.le_trans (Pure.total_le b2 (by omega)) (by decide)) (Pure.sets_pos (by omega) o2) (Int.le_trans (Pure.sets_le b2) (by decide)) _).mono ?_
            rintro e6 w5 ⟨rfl, hb5⟩
            have s0 := below_cell hb5 k2
            have s1 := below_cell hb5 k3
            have t0 := below_frozen hb5 k2 m2
            have t1 := below_frozen hb5 k3 m3
            have HB5 := Lib.hid hb5
            clear hb5 k0 k2 k3 m2 m3 HT2
            go_wp2_with fail
            refine bodyPost_ret (v := .tuple #[partV (Pure.sumTo b d n (fun j => j) (n + 1)) (Pure.sets b n), .int .i64 0]) (by simp [results, Try.results21, go_sem, s0, s1]) rfl ⟨?_, ?_⟩
            · rw [H1.out, H2.out, H3.out, Pure.first3_true _ _ _ rfl rfl rfl, Pure.res2_zero rfl, HT.out]
            · exact ((HB3.out.trans (HB5.out.mono (by have := HSZ3.out; omega))).setCell (p := ⟨w.heap.size + 1, 0, none⟩) (by simp) _).setCell (p := ⟨w.heap.size + 1, 1, none⟩) (by simp) _

end Go.Proofs.Yteckpbghmhelpaa
