/-
  The contract of the specification's Put.
-/
import Derived.Test.YtijfdfplebbaaaaGreatURStr
namespace Go.Proofs.YtijfdfplebbaaaaGreat
open Go.RowKit

theorem put_data2 (N : Nat → NoteX) (k : Nat) (x : NoteX) (q : Nat) (hq : q < (k + 1) * 7) : joinV (noteF N) (k * 7) (noteF fun _ => x) q = noteF (Pure.insN N k x) q := by
  rw [← Pure.insV_notes]
  unfold joinV Pure.insV
  by_cases h : q < k * 7
  · rw [if_pos h, if_pos h]
  · rw [if_neg h, if_neg h, if_pos (by omega)]
theorem put_data3 (N : Nat → NoteX) (k : Nat) (x : NoteX) (q : Nat) : joinV (noteF (Pure.insN N k x)) ((k + 1) * 7) (fun q => noteF N (k * 7 + q)) q = noteF (Pure.insN N k x) q := by
  unfold joinV
  by_cases h : q < (k + 1) * 7
  · rw [if_pos h]
  · rw [if_neg h, ← Pure.insV_notes]
    unfold Pure.insV
    rw [if_neg (by omega), if_neg (by omega)]
    show noteF N (k * 7 + (q - (k + 1) * 7)) = noteF N (q - 7)
    rw [show k * 7 + (q - (k + 1) * 7) = q - 7 by omega]

set_option maxHeartbeats 32000000 in
set_option maxRecDepth 100000 in
/-- **Put**, the specification's. -/
theorem rPut_any (r : RollX) (d : RollD) (x : NoteX) (hN : RollN r) (hnil : RollNone r) (hcap : r.nn ≤ r.nc) (w : World) (hR : RollAt w r d) :
    Calls Tryz.prog 7 #[rollV r, tnoteV x] w fun e w' => ∃ r', e = .returned (.tuple #[rollV r', .int .i64 (Pure.putE r d x)]) ∧ RollOut w' w.heap.size (decide (Pure.putE r d x = 0)) r.pn r.wn r.mn r.sn (r.nn + 1) (Pure.insD r d x) r' ∧ Below w.heap.size w w' := by
  obtain ⟨W, hW⟩ : ∃ W, ((w.alloc (rollB r)).alloc (tnoteB x)).alloc ZB = W := ⟨_, rfl⟩
  have HB : Hid (Below w.heap.size w W) := Lib.hid (by rw [← hW]; exact ((below_new _ _).alloc (by simp) _).alloc (by simp; omega) _)
  have HX : Hid (W.heap[w.heap.size]? = some (rollB r)) := Lib.hid (by rw [← hW]; exact heap_up (heap_up (heap_top _ _ rfl) _) _)
  have HY : Hid (W.heap[w.heap.size + 1]? = some (tnoteB x)) := Lib.hid (by rw [← hW]; exact heap_up (heap_top _ _ (by simp)) _)
  have HZ : Hid (W.heap[w.heap.size + 1 + 1]? = some ZB) := Lib.hid (by rw [← hW]; exact heap_top _ _ (by simp))
  have HSZ : Hid (W.heap.size = w.heap.size + 3) := Lib.hid (by rw [← hW]; simp)
  have HR := Lib.hid (hR.below HB.out)
  have HNB := Lib.hid hN.n
  have HN := Lib.hid hnil
  have HCAP := Lib.hid hcap
  clear hR hnil hcap
  obtain ⟨c, hc⟩ : ∃ c, Pure.putE r d x = c := ⟨_, rfl⟩
  have HC := Lib.hid hc
  rw [hc]
  clear hc
  obtain ⟨ce, hce⟩ : ∃ c, Pure.checkE r d = c := ⟨_, rfl⟩
  have HCE := Lib.hid hce
  have x0 := heap_cell HX.out (j := 0) rfl
  have x1 := heap_cell HX.out (j := 1) rfl
  have x2 := heap_cell HX.out (j := 2) rfl
  have x3 := heap_cell HX.out (j := 3) rfl
  have x4 := heap_cell HX.out (j := 4) rfl
  go_enter Tryz.func7, Tryz.ntmps7
  go_upto_region 1 with fail
  try rw [hW]
  clear hW
  go_wp2_with fail
  refine (rCheck_any r d hN _ HR.out).mono ?_
  rintro e U ⟨rfl, hb⟩
  rw [hce]
  have HX1 := Lib.hid (heap_lft HX.out hb)
  have HY1 := Lib.hid (heap_lft HY.out hb)
  have HZ1 := Lib.hid (heap_lft HZ.out hb)
  have HB1 := Lib.hid (below_thn HB.out hb)
  have HR1 := Lib.hid (HR.out.below hb)
  have HS1 : Hid (w.heap.size + 3 ≤ U.heap.size) := Lib.hid (by have := hb.size; have := HSZ.out; omega)
  clear hb hce x0 x1 x2 x3 x4 HX HY HZ HB HR HSZ
  by_cases h0 : ce = 0
  · subst h0
    have HSM := Lib.hid (Pure.checkE_small HCE.out)
    have x4 := heap_cell HX1.out (j := 4) rfl
    have h24 : r.nn ≤ 24 := by
      have h1 := (Pure.checkE_zero HCE.out).2
      simp only [Pure.roll, Pure.notesOk, Bool.and_eq_true, decide_eq_true_eq] at h1
      omega
    by_cases hf : r.nn = 24
    · have hff : ((r.nn : Int) == 24) = true := by simp; omega
      have HC9 : Hid (c = 9) := Lib.hid (by
        rw [← HC.out]
        unfold Pure.putE
        unfold Pure.putC
        rw [if_neg (by rw [if_pos HCE.out, hf]; decide), if_pos HCE.out, hf]
        rfl)
      have HZ9 := HZ1
      clear hf
      have z0 := heap_cell HZ9.out (j := 0) rfl
      have fz0 := heap_frozen HZ9.out 0
      have z1 := heap_cell HZ9.out (j := 1) rfl
      have fz1 := heap_frozen HZ9.out 1
      have z2 := heap_cell HZ9.out (j := 2) rfl
      have fz2 := heap_frozen HZ9.out 2
      have z3 := heap_cell HZ9.out (j := 3) rfl
      have fz3 := heap_frozen HZ9.out 3
      have z4 := heap_cell HZ9.out (j := 4) rfl
      have fz4 := heap_frozen HZ9.out 4
      go_wp2_with fail
      refine bodyPost_ret (v := .tuple #[rollV nilRoll, .int .i64 9]) (by simp [results, Tryz.results7, go_sem, z0, z1, z2, z3, z4, nilRoll]; try rfl) rfl ⟨nilRoll, by rw [HC9.out], by rw [HC9.out, decide_eq_false (by decide)]; exact nil_out _ _ _ _ _ _ _ _, ?_⟩
      repeat (first | with_reducible exact HB1.out | with_reducible refine Below.setCell ?_ (by dsimp only; omega) _)
    · have hff : ((r.nn : Int) == 24) = false := by simp; omega
      have HFF := Lib.hid (show r.nn < 24 by omega)
      clear hf h24
      go_upto_region 7 with fail
      clear hff x4
      go_loopw [7] (fun i wr => ∃ k : Nat, k ≤ r.nn ∧ i = .int .i64 k ∧ (∀ m, m < k → (d.N m).n < x.n) ∧ Below U.heap.size U wr) (fun i _ => r.nn - (intOf i).toNat)
      case atStart => exact ⟨0, Nat.zero_le _, rfl, fun j hj => by omega, Below.refl _ _⟩
      case round =>
        obtain ⟨k, hk, rfl, hq, hb⟩ := hrel
        have HQ := Lib.hid hq
        have HBK := Lib.hid hb
        have HXK := Lib.hid (heap_lft HX1.out hb)
        have HYK := Lib.hid (heap_lft HY1.out hb)
        clear hq hb
        have hnb := HNB.out
        have x4 := heap_cell HXK.out (j := 4) rfl
        have y0 := heap_cell HYK.out (j := 0) rfl
        by_cases hk1 : k < r.nn
        · obtain ⟨b, off, hma, hnc⟩ := (HR1.out.below HBK.out).n k hk1
          have c0 := hnc.c0
          clear hnc
          have hk2 : (k : Int) < r.nn := by omega
          have q1 : decide ((k : Int) < (r.nn : Int)) = true := decide_eq_true hk2
          rw [hma] at x4
          by_cases hg : (d.N k).n < x.n
          · have g1 : decide ((d.N k).n < x.n) = true := decide_eq_true hg
            have HG := Lib.hid hg
            clear hg hma
            go_upto_region 7 with fail
            have xx0 := among_below x4
            have xx1 := among_below y0
            have xx2 := among_below c0
            have HSt : Hid (Below wr.heap.size wr wr.drew) := Lib.hid (Below.refl _ _).drew
            have hne : Nonempty (Among (Below wr.heap.size wr)) := ⟨⟨_, HSt.out⟩⟩
            refine wp_region_class (Below wr.heap.size wr) (by kernel_rfl) (by kernel_rfl) HSt.out ?_
            repeat (go_big_quiet_step (fail))
            refine wpQuiet_nil ?_
            intro w8 hx
            have HB8 := Lib.hid (below_thn HBK.out (among_out hx))
            clear hx hne xx0 xx1 xx2
            clear x4 y0 c0 q1 g1
            go_wp2_with fail
            go_roundw
            case rel => exact ⟨k + 1, by omega, by go_num, fun m hm => by
              by_cases e : m = k
              · subst e; exact HG.out
              · exact HQ.out m (by omega), HB8.out⟩
            case measure => simp [intOf]; omega
          · have g1 : decide ((d.N k).n < x.n) = false := decide_eq_false hg
            have HG := Lib.hid hg
            clear hg hma
            go_upto_region 7 with fail
            have xx0 := among_below x4
            have xx1 := among_below y0
            have xx2 := among_below c0
            have HSt : Hid (Below wr.heap.size wr wr.drew) := Lib.hid (Below.refl _ _).drew
            have hne : Nonempty (Among (Below wr.heap.size wr)) := ⟨⟨_, HSt.out⟩⟩
            refine wp_region_class (Below wr.heap.size wr) (by kernel_rfl) (by kernel_rfl) HSt.out ?_
            repeat (go_big_quiet_step (fail))
            refine wpQuiet_nil ?_
            intro w8 hx
            have HB8 := Lib.hid (below_thn HBK.out (among_out hx))
            clear hx hne xx0 xx1 xx2
            clear x4 y0 c0 q1 g1
            have HPOS := Lib.hid (Pure.posN_eq (nn := r.nn) (N := d.N) (t := x.n) (i := k) hk HQ.out (fun _ => by have := HG.out; omega))
            have HKL := Lib.hid hk
            have HX3 := Lib.hid (heap_lft HX1.out HB8.out)
            have HY3 := Lib.hid (heap_lft HY1.out HB8.out)
            have HZ3 := Lib.hid (heap_lft HZ1.out HB8.out)
            have HB3 := Lib.hid (below_thn HB1.out HB8.out)
            have HR3 := Lib.hid (HR1.out.below HB8.out)
            have HS3 : Hid (w.heap.size + 3 ≤ w8.heap.size) := Lib.hid (by have := HS1.out; have := HB8.out.size; omega)
            have x0 := heap_cell HX3.out (j := 0) rfl
            have x1 := heap_cell HX3.out (j := 1) rfl
            have x2 := heap_cell HX3.out (j := 2) rfl
            have x3 := heap_cell HX3.out (j := 3) rfl
            have x4 := heap_cell HX3.out (j := 4) rfl
            go_wp2_with fail
            refine (rTwin_any r d hN HN.out _ HR3.out).mono ?_
            rintro e u ⟨r1, rfl, ho, e1, e2, e3, e4, e5, hb⟩
            have HE := Lib.hid (And.intro e1 (And.intro e2 (And.intro e3 (And.intro e4 e5))))
            obtain ⟨V, hV⟩ : ∃ V, u.alloc (rollB r1) = V := ⟨_, rfl⟩
            have hbu : Below u.heap.size u V := by rw [← hV]; exact below_new _ _
            have H8 : Hid (V.heap[u.heap.size]? = some (rollB r1)) := Lib.hid (by rw [← hV]; exact heap_top _ _ rfl)
            have HVS : Hid (w8.heap.size ≤ u.heap.size ∧ V.heap.size = u.heap.size + 1) := Lib.hid ⟨hb.size, by rw [← hV]; simp⟩
            have HO := Lib.hid ho
            have HVU : Hid (∀ i, i < u.heap.size → V.heap[i]? = u.heap[i]?) := Lib.hid (fun i hi => hbu.block i hi)
            have hbv := below_thn hb hbu
            have HX4 := Lib.hid (heap_lft HX3.out hbv)
            have HY4 := Lib.hid (heap_lft HY3.out hbv)
            have HZ4 := Lib.hid (heap_lft HZ3.out hbv)
            have HR4 := Lib.hid (HR3.out.below hbv)
            have HB4 := Lib.hid (below_thn HB3.out hbv)
            have HLT : Hid (w.heap.size < V.heap.size ∧ w.heap.size + 1 < V.heap.size ∧ u.heap.size < V.heap.size) := Lib.hid (by have := HS3.out; have := HVS.out; omega)
            clear ho hb hbu hbv e1 e2 e3 e4 e5 x0 x1 x2 x3 x4 HX3 HY3 HZ3 HR3 HB3 HX1 HY1 HZ1 HR1 HB1
            go_upto_region 10 with fail
            try rw [hV]
            clear hV
            go_cut [] from 40 to 54 (fun wx => ∃ a3 c3, wx.heap[u.heap.size]? = some (rollB ⟨r1.pa, r1.pn, r1.pc, r1.wa, r1.wn, r1.wc, r1.ma, r1.mn, r1.mc, r1.sa, r1.sn, r1.sc, a3, r.nn + 1, c3⟩) ∧ OwnVals wx V.heap.size 34 7 a3 (r.nn + 1) c3 (noteF (Pure.insN d.N k x)) ∧ (∀ i, i < V.heap.size → i ≠ u.heap.size → wx.heap[i]? = V.heap[i]?) ∧ V.heap.size ≤ wx.heap.size ∧ Below w.heap.size w wx)
            case first =>
              rename_i J K' hJ hK'
              generalize hA : (Act.mk _ _ : Act) = a0
              have m2 : At a0 2 (.pointer (some ⟨w.heap.size, 0, none⟩)) := by rw [← hA]; rfl
              have m3 : At a0 3 (.pointer (some ⟨w.heap.size + 1, 0, none⟩)) := by rw [← hA]; rfl
              have m7 : At a0 7 (.int .i64 k) := by rw [← hA]; rfl
              have m8 : At a0 8 (.pointer (some ⟨u.heap.size, 0, none⟩)) := by rw [← hA]; rfl
              have hsz : 54 < a0.tmps.size := by rw [← hA]; exact of_decide_eq_true (by kernel_rfl)
              have hfin : ∀ a' w', Kept (List.range' 40 15) a0 a' → (∃ a3 c3, w'.heap[u.heap.size]? = some (rollB ⟨r1.pa, r1.pn, r1.pc, r1.wa, r1.wn, r1.wc, r1.ma, r1.mn, r1.mc, r1.sa, r1.sn, r1.sc, a3, r.nn + 1, c3⟩) ∧ OwnVals w' V.heap.size 34 7 a3 (r.nn + 1) c3 (noteF (Pure.insN d.N k x)) ∧ (∀ i, i < V.heap.size → i ≠ u.heap.size → w'.heap[i]? = V.heap[i]?) ∧ V.heap.size ≤ w'.heap.size ∧ Below w.heap.size w w') → K' a' w' := by
                intro a' w' hI hL
                refine hK' _ _ (Met.intro (hJ _ _ ⟨a'.tmps.getD 40 undef, a'.tmps.getD 41 undef, a'.tmps.getD 42 undef, a'.tmps.getD 43 undef, a'.tmps.getD 44 undef, a'.tmps.getD 45 undef, a'.tmps.getD 46 undef, a'.tmps.getD 47 undef, a'.tmps.getD 48 undef, a'.tmps.getD 49 undef, a'.tmps.getD 50 undef, a'.tmps.getD 51 undef, a'.tmps.getD 52 undef, a'.tmps.getD 53 undef, a'.tmps.getD 54 undef, hL, hI.eq.trans ?_⟩))
                rw [← hA]
                kernel_rfl
              have hI : Kept (List.range' 40 15) a0 a0 := Kept.refl _ _
              clear hA hJ hK' J
              refine with_pan (fun d _ _ _ _ h => by cases d <;> exact h) ?_
              intro hpan
              refine wp_region_restF (fun j => j == 15) (fun z => z.heap[w.heap.size]? = some (rollB r) ∧ z.heap[w.heap.size + 1]? = some (tnoteB x) ∧ z.heap[u.heap.size]? = some (rollB r1)) (by kernel_rfl) ?_
              obtain ⟨wz, hwz⟩ : ∃ x, V.drew = x := ⟨_, rfl⟩
              change RestF _ _ _ _ _ _ _ _ (V.drew)
              rw [hwz]
              have hq : Below V.heap.size V wz := by rw [← hwz]; exact (Below.refl _ _).drew
              clear hwz
              have hS : wz.heap[w.heap.size]? = some (rollB r) ∧ wz.heap[w.heap.size + 1]? = some (tnoteB x) ∧ wz.heap[u.heap.size]? = some (rollB r1) := ⟨heap_lft HX4.out hq, heap_lft HY4.out hq, heap_lft H8.out hq⟩
              refine restF_take (k := 1) (d := 41) (v := .pointer (some ⟨w.heap.size, 4, none⟩)) hI rfl rfl (by kernel_rfl) (Nat.lt_of_le_of_lt (by decide) hsz) (by kernel_rfl) hpan (by kernel_rfl) hS (wanted_free rfl) (fun z hz => by have n2 := hI.at m2 (by kernel_rfl); have e2 := n2; have f2 := n2.eval; unfold At at e2; simp [go_sem, e2]) (fun a' hI' n41' hk => ?_)
              have n41 := n41'
              replace hI := hI'
              clear hk hI' n41'
              obtain ⟨act9, rfl⟩ : ∃ x, x = a' := ⟨_, rfl⟩
              refine restF_take (k := 2) (d := 42) (v := .slice r.na r.nn r.nc) hI rfl rfl (by kernel_rfl) (Nat.lt_of_le_of_lt (by decide) hsz) (by kernel_rfl) hpan (by kernel_rfl) hS (wanted_free rfl) (fun z hz => by have e41 := n41; have f41 := n41.eval; unfold At at e41; have k4 := heap_cell hz.1 (j := 4) rfl; simp [go_sem, e41, k4]) (fun a' hI' n42' hk => ?_)
              replace n41 := hk _ _ n41 rfl
              have n42 := n42'
              replace hI := hI'
              clear hk hI' n42'
              obtain ⟨act9, rfl⟩ : ∃ x, x = a' := ⟨_, rfl⟩
              clear n41
              refine restF_take (k := 3) (d := 43) (v := .int .i64 k) hI rfl rfl (by kernel_rfl) (Nat.lt_of_le_of_lt (by decide) hsz) (by kernel_rfl) hpan (by kernel_rfl) hS (wanted_free rfl) (fun z hz => by have n7 := hI.at m7 (by kernel_rfl); have e7 := n7; have f7 := n7.eval; unfold At at e7; simp [go_sem, e7]) (fun a' hI' n43' hk => ?_)
              replace n42 := hk _ _ n42 rfl
              have n43 := n43'
              replace hI := hI'
              clear hk hI' n43'
              obtain ⟨act9, rfl⟩ : ∃ x, x = a' := ⟨_, rfl⟩
              refine restF_take (k := 4) (d := 44) (v := .slice r.na k r.nc) hI rfl rfl (by kernel_rfl) (Nat.lt_of_le_of_lt (by decide) hsz) (by kernel_rfl) hpan (by kernel_rfl) hS (wanted_free rfl) (fun z hz => by have e42 := n42; have f42 := n42.eval; unfold At at e42; have e43 := n43; have f43 := n43.eval; unfold At at e43; exact exec_slice_hi 28 34 (.tmp 42) (.tmp 43) 7 rfl Tryz.underlying28 (fun w => by kernel_rfl) n42.eval n43.eval (by have := HKL.out; have := HCAP.out; omega)) (fun a' hI' n44' hk => ?_)
              replace n42 := hk _ _ n42 rfl
              replace n43 := hk _ _ n43 rfl
              have n44 := n44'
              replace hI := hI'
              clear hk hI' n44'
              obtain ⟨act9, rfl⟩ : ∃ x, x = a' := ⟨_, rfl⟩
              clear n42
              clear n43
              refine restF_take (k := 6) (d := 46) (v := tnoteV x) hI rfl rfl (by kernel_rfl) (Nat.lt_of_le_of_lt (by decide) hsz) (by kernel_rfl) hpan (by kernel_rfl) hS (wanted_free rfl) (fun z hz => by have n3 := hI.at m3 (by kernel_rfl); have e3 := n3; have f3 := n3.eval; unfold At at e3; have k0 := heap_cell hz.2.1 (j := 0) rfl; have k1 := heap_cell hz.2.1 (j := 1) rfl; have k2 := heap_cell hz.2.1 (j := 2) rfl; have k3 := heap_cell hz.2.1 (j := 3) rfl; have k4 := heap_cell hz.2.1 (j := 4) rfl; have k5 := heap_cell hz.2.1 (j := 5) rfl; have k6 := heap_cell hz.2.1 (j := 6) rfl; simp [go_sem, e3, k0, k1, k2, k3, k4, k5, k6]) (fun a' hI' n46' hk => ?_)
              replace n44 := hk _ _ n44 rfl
              have n46 := n46'
              replace hI := hI'
              clear hk hI' n46'
              obtain ⟨act9, rfl⟩ : ∃ x, x = a' := ⟨_, rfl⟩
              refine restF_take (k := 9) (d := 49) (v := .pointer (some ⟨w.heap.size, 4, none⟩)) hI rfl rfl (by kernel_rfl) (Nat.lt_of_le_of_lt (by decide) hsz) (by kernel_rfl) hpan (by kernel_rfl) hS (wanted_free rfl) (fun z hz => by have n2 := hI.at m2 (by kernel_rfl); have e2 := n2; have f2 := n2.eval; unfold At at e2; simp [go_sem, e2]) (fun a' hI' n49' hk => ?_)
              replace n44 := hk _ _ n44 rfl
              replace n46 := hk _ _ n46 rfl
              have n49 := n49'
              replace hI := hI'
              clear hk hI' n49'
              obtain ⟨act9, rfl⟩ : ∃ x, x = a' := ⟨_, rfl⟩
              refine restF_take (k := 10) (d := 50) (v := .slice r.na r.nn r.nc) hI rfl rfl (by kernel_rfl) (Nat.lt_of_le_of_lt (by decide) hsz) (by kernel_rfl) hpan (by kernel_rfl) hS (wanted_free rfl) (fun z hz => by have e49 := n49; have f49 := n49.eval; unfold At at e49; have k4 := heap_cell hz.1 (j := 4) rfl; simp [go_sem, e49, k4]) (fun a' hI' n50' hk => ?_)
              replace n44 := hk _ _ n44 rfl
              replace n46 := hk _ _ n46 rfl
              replace n49 := hk _ _ n49 rfl
              have n50 := n50'
              replace hI := hI'
              clear hk hI' n50'
              obtain ⟨act9, rfl⟩ : ∃ x, x = a' := ⟨_, rfl⟩
              clear n49
              refine restF_take (k := 11) (d := 51) (v := .int .i64 k) hI rfl rfl (by kernel_rfl) (Nat.lt_of_le_of_lt (by decide) hsz) (by kernel_rfl) hpan (by kernel_rfl) hS (wanted_free rfl) (fun z hz => by have n7 := hI.at m7 (by kernel_rfl); have e7 := n7; have f7 := n7.eval; unfold At at e7; simp [go_sem, e7]) (fun a' hI' n51' hk => ?_)
              replace n44 := hk _ _ n44 rfl
              replace n46 := hk _ _ n46 rfl
              replace n50 := hk _ _ n50 rfl
              have n51 := n51'
              replace hI := hI'
              clear hk hI' n51'
              obtain ⟨act9, rfl⟩ : ∃ x, x = a' := ⟨_, rfl⟩
              refine restF_take (k := 12) (d := 52) (v := .slice (tailA r.na r.nc k 7) (r.nn - k) (r.nc - k)) hI rfl rfl (by kernel_rfl) (Nat.lt_of_le_of_lt (by decide) hsz) (by kernel_rfl) hpan (by kernel_rfl) hS (wanted_free rfl) (fun z hz => by have e50 := n50; have f50 := n50.eval; unfold At at e50; have e51 := n51; have f51 := n51.eval; unfold At at e51; exact exec_slice_lo 28 34 (.tmp 50) (.tmp 51) 7 rfl Tryz.underlying28 (fun w => by kernel_rfl) n50.eval n51.eval (by have := HKL.out; omega)) (fun a' hI' n52' hk => ?_)
              replace n44 := hk _ _ n44 rfl
              replace n46 := hk _ _ n46 rfl
              replace n50 := hk _ _ n50 rfl
              replace n51 := hk _ _ n51 rfl
              have n52 := n52'
              replace hI := hI'
              clear hk hI' n52'
              obtain ⟨act9, rfl⟩ : ∃ x, x = a' := ⟨_, rfl⟩
              clear n50
              clear n51
              refine restF_name (fun R hR => ?_)
              have st4y : ∀ (a1 : Option Addr) (c1 : Nat) (ac : Act) (wo : World), Kept (List.range' 40 15) a0 ac → At ac 53 (.slice a1 (r.nn + 1) c1) → (OwnVals wo V.heap.size 34 7 a1 (r.nn + 1) c1 (noteF (Pure.insN d.N k x))) → (wo.heap[w.heap.size]? = some (rollB r) ∧ wo.heap[w.heap.size + 1]? = some (tnoteB x) ∧ wo.heap[u.heap.size]? = some (rollB r1)) → (Below V.heap.size V wo) → R 2 [1, 2, 3, 4, 6, 9, 10, 11, 12, 7, 0, 5, 8, 13] ac wo := by
                intro a1 c1 ac wo hI n53 hO hS hq
                rw [hR]
                refine restF_only (k := 14) (by kernel_rfl) (op_value (k := 14) (d := 54) (v := .pointer (some ⟨u.heap.size, 4, none⟩)) hI rfl rfl (by kernel_rfl) (Nat.lt_of_le_of_lt (by decide) hsz) (wanted_free rfl) (by have n8 := hI.at m8 (by kernel_rfl); have e8 := n8; have f8 := n8.eval; unfold At at e8; simp [go_sem, e8]; try rfl) (fun a' hI' n54' hk => ⟨fun _ => hS, ?_⟩))
                replace n53 := hk _ _ n53 rfl
                have n54 := n54'
                replace hI := hI'
                clear hk hI' n54'
                obtain ⟨act9, rfl⟩ : ∃ x, x = a' := ⟨_, rfl⟩
                have hS5 := heap_set hS.2.2 4 (.slice a1 (r.nn + 1) c1)
                refine restF_only (k := 15) (by kernel_rfl) (op_store (k := 15) rfl rfl (wanted_free rfl) (by have e53 := n53; have f53 := n53.eval; unfold At at e53; have e54 := n54; have f54 := n54.eval; unfold At at e54; have k4 := heap_cell hS.2.2 (j := 4) rfl; have f4 := heap_frozen hS.2.2 4; simp [go_sem, e53, e54, k4, f4]; try rfl) ⟨fun hf => absurd hf (by decide), ?_⟩)
                refine restF_done (by kernel_rfl) ?_
                refine hfin _ _ hI ⟨a1, c1, hS5, hO.neq hS.2.2 (by decide) 4 _, fun i hi hne => (setCell_other (by dsimp only; exact hne)).trans (hq.block i hi), by simpa using hq.size, (below_thn HB4.out hq).setCell (by have := HS3.out; have := HVS.out; dsimp only; omega) _⟩
              have st3y : ∀ (a1 : Option Addr) (c1 : Nat) (ac : Act) (wo : World), Kept (List.range' 40 15) a0 ac → At ac 48 (.slice a1 (k + 1) c1) → At ac 52 (.slice (tailA r.na r.nc k 7) (r.nn - k) (r.nc - k)) → (OwnVals wo V.heap.size 34 7 a1 (k + 1) c1 (noteF (Pure.insN d.N k x))) → (wo.heap[w.heap.size]? = some (rollB r) ∧ wo.heap[w.heap.size + 1]? = some (tnoteB x) ∧ wo.heap[u.heap.size]? = some (rollB r1)) → (Below V.heap.size V wo) → R 3 [1, 2, 3, 4, 6, 9, 10, 11, 12, 7, 0, 5, 8] ac wo := by
                intro a1 c1 ac wo hI n48 n52 hO hS hq
                rw [hR]
                obtain ⟨i0, hi, hz0, hz1, hz2⟩ := infoTNote
                obtain ⟨a2, c2, nw, hr, ho, hal, hb1, hfr⟩ := app_vals wo V.heap.size 34 28 28 7 56 i0 _ Tryz.underlying28 hi hz0 hz1 hz2 rfl (by decide) (by decide) hO (tailA r.na r.nc k 7) (r.nn - k) (r.nc - k) (fun q => noteF d.N (k * 7 + q)) (fun q => noteF_one _ _) ((HR4.out.below hq).n.vals.tail HKL.out HCAP.out) (fun e => by have := (HN.out.n (tailA_none e)); omega) (by have := HKL.out; have := HNB.out; omega) (by have := HKL.out; have := HNB.out; omega) hq.size
                rw [show k + 1 + (r.nn - k) = r.nn + 1 by have := HKL.out; omega] at hr ho
                have hO1 := ho.congr (G := noteF (Pure.insN d.N k x)) (fun q hq => put_data3 d.N k x q)
                have hS1 : nw.heap[w.heap.size]? = some (rollB r) ∧ nw.heap[w.heap.size + 1]? = some (tnoteB x) ∧ nw.heap[u.heap.size]? = some (rollB r1) := ⟨(hb1.block _ HLT.out.1).trans hS.1, (hb1.block _ HLT.out.2.1).trans hS.2.1, (hb1.block _ HLT.out.2.2).trans hS.2.2⟩
                have hq1 := hq.trans hb1
                refine restF_only (k := 13) (by kernel_rfl) (op_value (k := 13) (d := 53) (v := .slice a2 (r.nn + 1) c2) hI rfl rfl (by kernel_rfl) (Nat.lt_of_le_of_lt (by decide) hsz) (wanted_free rfl) (exec_append (.tmp 48) (.tmp 52) 28 28 rfl n48.eval n52.eval (hr)) (fun a' hI' n53' hk => ⟨fun _ => hS1, ?_⟩))
                replace n48 := hk _ _ n48 rfl
                replace n52 := hk _ _ n52 rfl
                have n53 := n53'
                replace hI := hI'
                clear hk hI' n53'
                obtain ⟨act9, rfl⟩ : ∃ x, x = a' := ⟨_, rfl⟩
                refine RestF.same (d' := [1, 2, 3, 4, 6, 9, 10, 11, 12, 7, 0, 5, 8, 13]) ?_ (by kernel_rfl)
                rw [← hR]
                exact st4y a2 c2 _ _ hI n53 hO1 hS1 hq1
              have st2y : ∀ (a1 : Option Addr) (c1 : Nat) (bx : Nat) (ac : Act) (wo : World), Kept (List.range' 40 15) a0 ac → At ac 45 (.slice a1 k c1) → At ac 52 (.slice (tailA r.na r.nc k 7) (r.nn - k) (r.nc - k)) → At ac 47 (.slice (some ⟨bx, 0, none⟩) 1 1) → (OwnVals wo V.heap.size 34 7 a1 k c1 (noteF d.N)) → (wo.heap[bx]? = some (tnoteB x)) → (V.heap.size ≤ bx) → (∀ z : Addr, a1 = some z → bx ≠ z.block) → (wo.heap[w.heap.size]? = some (rollB r) ∧ wo.heap[w.heap.size + 1]? = some (tnoteB x) ∧ wo.heap[u.heap.size]? = some (rollB r1)) → (Below V.heap.size V wo) → R 4 [1, 2, 3, 4, 6, 9, 10, 11, 12, 7, 0, 5] ac wo := by
                intro a1 c1 bx ac wo hI n45 n52 n47 hO hbx hbv hne hS hq
                rw [hR]
                obtain ⟨i0, hi, hz0, hz1, hz2⟩ := infoTNote
                obtain ⟨a2, c2, nw, hr, ho, hal, hb1, hfr⟩ := app_vals wo V.heap.size 34 28 28 7 56 i0 _ Tryz.underlying28 hi hz0 hz1 hz2 rfl (by decide) (by decide) hO (some ⟨bx, 0, none⟩) 1 1 (noteF fun _ => x) (noteF_one _) (note_one hbx).vals (fun e => by cases e) (by have := HKL.out; have := HNB.out; omega) (by have := HKL.out; have := HNB.out; omega) hq.size
                have hO1 := ho.congr (G := noteF (Pure.insN d.N k x)) (fun q hq => put_data2 d.N k x q hq)
                have hS1 : nw.heap[w.heap.size]? = some (rollB r) ∧ nw.heap[w.heap.size + 1]? = some (tnoteB x) ∧ nw.heap[u.heap.size]? = some (rollB r1) := ⟨(hb1.block _ HLT.out.1).trans hS.1, (hb1.block _ HLT.out.2.1).trans hS.2.1, (hb1.block _ HLT.out.2.2).trans hS.2.2⟩
                have hq1 := hq.trans hb1
                refine restF_only (k := 8) (by kernel_rfl) (op_value (k := 8) (d := 48) (v := .slice a2 (k + 1) c2) hI rfl rfl (by kernel_rfl) (Nat.lt_of_le_of_lt (by decide) hsz) (wanted_free rfl) (exec_append (.tmp 45) (.tmp 47) 28 28 rfl n45.eval n47.eval (hr)) (fun a' hI' n48' hk => ⟨fun _ => hS1, ?_⟩))
                replace n45 := hk _ _ n45 rfl
                replace n52 := hk _ _ n52 rfl
                replace n47 := hk _ _ n47 rfl
                have n48 := n48'
                replace hI := hI'
                clear hk hI' n48'
                obtain ⟨act9, rfl⟩ : ∃ x, x = a' := ⟨_, rfl⟩
                refine RestF.same (d' := [1, 2, 3, 4, 6, 9, 10, 11, 12, 7, 0, 5, 8]) ?_ (by kernel_rfl)
                rw [← hR]
                exact st3y a2 c2 _ _ hI n48 n52 hO1 hS1 hq1
              have st1y : ∀ (b1 : Nat) (bx : Nat) (ac : Act) (wo : World), Kept (List.range' 40 15) a0 ac → At ac 40 (.slice (some ⟨b1, 0, none⟩) 0 0) → At ac 44 (.slice r.na k r.nc) → At ac 52 (.slice (tailA r.na r.nc k 7) (r.nn - k) (r.nc - k)) → At ac 47 (.slice (some ⟨bx, 0, none⟩) 1 1) → (OwnVals wo V.heap.size 34 7 (some ⟨b1, 0, none⟩) 0 0 (noteF d.N)) → (wo.heap[bx]? = some (tnoteB x)) → (V.heap.size ≤ bx) → (∀ z : Addr, (some ⟨b1, 0, none⟩) = some z → bx ≠ z.block) → (wo.heap[w.heap.size]? = some (rollB r) ∧ wo.heap[w.heap.size + 1]? = some (tnoteB x) ∧ wo.heap[u.heap.size]? = some (rollB r1)) → (Below V.heap.size V wo) → R 5 [1, 2, 3, 4, 6, 9, 10, 11, 12, 7, 0] ac wo := by
                intro b1 bx ac wo hI n40 n44 n52 n47 hO hbx hbv hne hS hq
                rw [hR]
                obtain ⟨i0, hi, hz0, hz1, hz2⟩ := infoTNote
                obtain ⟨a2, c2, nw, hr, ho, hal, hb1, hfr⟩ := app_vals wo V.heap.size 34 28 28 7 56 i0 _ Tryz.underlying28 hi hz0 hz1 hz2 rfl (by decide) (by decide) hO r.na k r.nc (noteF d.N) (noteF_one _) ((HR4.out.below hq).n.vals.head HKL.out) (fun e => by have := (HN.out.n e); have := HKL.out; omega) (by have := HKL.out; have := HNB.out; omega) (by have := HKL.out; have := HNB.out; omega) hq.size
                rw [Nat.zero_add] at hr ho
                have hO1 := ho.congr (G := noteF d.N) (fun q hq => by simp [joinV])
                have hS1 : nw.heap[w.heap.size]? = some (rollB r) ∧ nw.heap[w.heap.size + 1]? = some (tnoteB x) ∧ nw.heap[u.heap.size]? = some (rollB r1) := ⟨(hb1.block _ HLT.out.1).trans hS.1, (hb1.block _ HLT.out.2.1).trans hS.2.1, (hb1.block _ HLT.out.2.2).trans hS.2.2⟩
                have hq1 := hq.trans hb1
                have hbx1 : nw.heap[bx]? = some (tnoteB x) := (hal bx (Array.getElem?_eq_some_iff.1 hbx).1 hne).trans hbx
                have hne1 : ∀ z : Addr, a2 = some z → bx ≠ z.block := fun z hz e => by
                  rcases hfr z hz with g | g
                  · exact hne z g e
                  · have := (Array.getElem?_eq_some_iff.1 hbx).1; omega
                refine restF_only (k := 5) (by kernel_rfl) (op_value (k := 5) (d := 45) (v := .slice a2 k c2) hI rfl rfl (by kernel_rfl) (Nat.lt_of_le_of_lt (by decide) hsz) (wanted_free rfl) (exec_append (.tmp 40) (.tmp 44) 28 28 rfl n40.eval n44.eval (hr)) (fun a' hI' n45' hk => ⟨fun _ => hS1, ?_⟩))
                replace n40 := hk _ _ n40 rfl
                replace n44 := hk _ _ n44 rfl
                replace n52 := hk _ _ n52 rfl
                replace n47 := hk _ _ n47 rfl
                have n45 := n45'
                replace hI := hI'
                clear hk hI' n45'
                obtain ⟨act9, rfl⟩ : ∃ x, x = a' := ⟨_, rfl⟩
                refine RestF.same (d' := [1, 2, 3, 4, 6, 9, 10, 11, 12, 7, 0, 5]) ?_ (by kernel_rfl)
                rw [← hR]
                exact st2y a2 c2 bx _ _ hI n45 n52 n47 hO1 hbx1 hbv hne1 hS1 hq1
              have st2n : ∀ (a1 : Option Addr) (c1 : Nat) (ac : Act) (wo : World), Kept (List.range' 40 15) a0 ac → At ac 45 (.slice a1 k c1) → At ac 52 (.slice (tailA r.na r.nc k 7) (r.nn - k) (r.nc - k)) → At ac 46 (tnoteV x) → (OwnVals wo V.heap.size 34 7 a1 k c1 (noteF d.N)) → (wo.heap[w.heap.size]? = some (rollB r) ∧ wo.heap[w.heap.size + 1]? = some (tnoteB x) ∧ wo.heap[u.heap.size]? = some (rollB r1)) → (Below V.heap.size V wo) → R 5 [1, 2, 3, 4, 6, 9, 10, 11, 12, 0, 5] ac wo := by
                intro a1 c1 ac wo hI n45 n52 n46 hO hS hq
                rw [hR]
                have hn1 := below_new wo (tnoteB x)
                have hbx1 : (wo.alloc (tnoteB x)).heap[wo.heap.size]? = some (tnoteB x) := heap_top _ _ rfl
                have hS1 : (wo.alloc (tnoteB x)).heap[w.heap.size]? = some (rollB r) ∧ (wo.alloc (tnoteB x)).heap[w.heap.size + 1]? = some (tnoteB x) ∧ (wo.alloc (tnoteB x)).heap[u.heap.size]? = some (rollB r1) := (And.intro (heap_lft hS.1 hn1) (And.intro (heap_lft hS.2.1 hn1) (heap_lft hS.2.2 hn1)))
                have hq1 := below_thn hq hn1
                have hbv := hq.size
                have hO1 := hO.below hn1
                have hne1 : ∀ z : Addr, a1 = some z → wo.heap.size ≠ z.block := fun z hz e => by have := (hO.lt z hz).2; omega
                obtain ⟨nw, hwe⟩ : ∃ y, wo.alloc (tnoteB x) = y := ⟨_, rfl⟩
                rw [hwe] at hn1 hS1 hq1 hbx1 hO1
                refine restF_only (k := 7) (by kernel_rfl) (op_value (k := 7) (d := 47) (v := .slice (some ⟨wo.heap.size, 0, none⟩) 1 1) hI rfl rfl (by kernel_rfl) (Nat.lt_of_le_of_lt (by decide) hsz) (wanted_free rfl) (by have e46 := n46; have f46 := n46.eval; unfold At at e46; simp [go_sem, e46]; try rfl) (fun a' hI' n47' hk => ⟨fun _ => by rw [hwe]; exact hS1, ?_⟩))
                replace n45 := hk _ _ n45 rfl
                replace n52 := hk _ _ n52 rfl
                replace n46 := hk _ _ n46 rfl
                have n47 := n47'
                replace hI := hI'
                clear hk hI' n47'
                obtain ⟨act9, rfl⟩ : ∃ x, x = a' := ⟨_, rfl⟩
                rw [hwe]
                refine RestF.same (d' := [1, 2, 3, 4, 6, 9, 10, 11, 12, 7, 0, 5]) ?_ (by kernel_rfl)
                rw [← hR]
                exact st2y a1 c1 wo.heap.size _ _ hI n45 n52 n47 hO1 hbx1 hbv hne1 hS1 hq1
              have st0y : ∀ (bx : Nat) (ac : Act) (wo : World), Kept (List.range' 40 15) a0 ac → At ac 44 (.slice r.na k r.nc) → At ac 52 (.slice (tailA r.na r.nc k 7) (r.nn - k) (r.nc - k)) → At ac 47 (.slice (some ⟨bx, 0, none⟩) 1 1) → (wo.heap[bx]? = some (tnoteB x)) → (V.heap.size ≤ bx) → (wo.heap[w.heap.size]? = some (rollB r) ∧ wo.heap[w.heap.size + 1]? = some (tnoteB x) ∧ wo.heap[u.heap.size]? = some (rollB r1)) → (Below V.heap.size V wo) → R 6 [1, 2, 3, 4, 6, 9, 10, 11, 12, 7] ac wo := by
                intro bx ac wo hI n44 n52 n47 hbx hbv hS hq
                rw [hR]
                have hn1 := below_new wo (.cells #[] 34)
                have hO1 : OwnVals (wo.alloc (.cells #[] 34)) V.heap.size 34 7 (some ⟨wo.heap.size, 0, none⟩) 0 0 (noteF d.N) := ownv_empty _ _ _ rfl hq.size _
                have hS1 : (wo.alloc (.cells #[] 34)).heap[w.heap.size]? = some (rollB r) ∧ (wo.alloc (.cells #[] 34)).heap[w.heap.size + 1]? = some (tnoteB x) ∧ (wo.alloc (.cells #[] 34)).heap[u.heap.size]? = some (rollB r1) := (And.intro (heap_lft hS.1 hn1) (And.intro (heap_lft hS.2.1 hn1) (heap_lft hS.2.2 hn1)))
                have hq1 := below_thn hq hn1
                have hbx1 := heap_lft hbx hn1
                have hne1 : ∀ z : Addr, (some ⟨wo.heap.size, 0, none⟩ : Option Addr) = some z → bx ≠ z.block := fun z hz e => by cases hz; have := (Array.getElem?_eq_some_iff.1 hbx).1; dsimp only at e; omega
                obtain ⟨nw, hwe⟩ : ∃ y, wo.alloc (.cells #[] 34) = y := ⟨_, rfl⟩
                rw [hwe] at hn1 hO1 hS1 hq1 hbx1
                refine restF_only (k := 0) (by kernel_rfl) (op_value (k := 0) (d := 40) (v := .slice (some ⟨wo.heap.size, 0, none⟩) 0 0) hI rfl rfl (by kernel_rfl) (Nat.lt_of_le_of_lt (by decide) hsz) (wanted_free rfl) (by simp [go_sem]; try rfl) (fun a' hI' n40' hk => ⟨fun _ => by rw [hwe]; exact hS1, ?_⟩))
                replace n44 := hk _ _ n44 rfl
                replace n52 := hk _ _ n52 rfl
                replace n47 := hk _ _ n47 rfl
                have n40 := n40'
                replace hI := hI'
                clear hk hI' n40'
                obtain ⟨act9, rfl⟩ : ∃ x, x = a' := ⟨_, rfl⟩
                rw [hwe]
                refine RestF.same (d' := [1, 2, 3, 4, 6, 9, 10, 11, 12, 7, 0]) ?_ (by kernel_rfl)
                rw [← hR]
                exact st1y wo.heap.size bx _ _ hI n40 n44 n52 n47 hO1 hbx1 hbv hne1 hS1 hq1
              have st1n : ∀ (b1 : Nat) (ac : Act) (wo : World), Kept (List.range' 40 15) a0 ac → At ac 40 (.slice (some ⟨b1, 0, none⟩) 0 0) → At ac 44 (.slice r.na k r.nc) → At ac 52 (.slice (tailA r.na r.nc k 7) (r.nn - k) (r.nc - k)) → At ac 46 (tnoteV x) → (OwnVals wo V.heap.size 34 7 (some ⟨b1, 0, none⟩) 0 0 (noteF d.N)) → (wo.heap[w.heap.size]? = some (rollB r) ∧ wo.heap[w.heap.size + 1]? = some (tnoteB x) ∧ wo.heap[u.heap.size]? = some (rollB r1)) → (Below V.heap.size V wo) → R 6 [1, 2, 3, 4, 6, 9, 10, 11, 12, 0] ac wo := by
                intro b1 ac wo hI n40 n44 n52 n46 hO hS hq
                rw [hR]
                refine restF_split [5, 7] (by kernel_rfl) rfl (fun i9 hi9 => ?_)
                have hi9' : i9 = 5 ∨ i9 = 7 := by simpa using hi9
                clear hi9
                rcases hi9' with rfl | rfl
                · obtain ⟨i0, hi, hz0, hz1, hz2⟩ := infoTNote
                  obtain ⟨a2, c2, nw, hr, ho, hal, hb1, hfr⟩ := app_vals wo V.heap.size 34 28 28 7 56 i0 _ Tryz.underlying28 hi hz0 hz1 hz2 rfl (by decide) (by decide) hO r.na k r.nc (noteF d.N) (noteF_one _) ((HR4.out.below hq).n.vals.head HKL.out) (fun e => by have := (HN.out.n e); have := HKL.out; omega) (by have := HKL.out; have := HNB.out; omega) (by have := HKL.out; have := HNB.out; omega) hq.size
                  rw [Nat.zero_add] at hr ho
                  have hO1 := ho.congr (G := noteF d.N) (fun q hq => by simp [joinV])
                  have hS1 : nw.heap[w.heap.size]? = some (rollB r) ∧ nw.heap[w.heap.size + 1]? = some (tnoteB x) ∧ nw.heap[u.heap.size]? = some (rollB r1) := ⟨(hb1.block _ HLT.out.1).trans hS.1, (hb1.block _ HLT.out.2.1).trans hS.2.1, (hb1.block _ HLT.out.2.2).trans hS.2.2⟩
                  have hq1 := hq.trans hb1
                  refine _root_.id (op_value (k := 5) (d := 45) (v := .slice a2 k c2) hI rfl rfl (by kernel_rfl) (Nat.lt_of_le_of_lt (by decide) hsz) (wanted_free rfl) (exec_append (.tmp 40) (.tmp 44) 28 28 rfl n40.eval n44.eval (hr)) (fun a' hI' n45' hk => ⟨fun _ => hS1, ?_⟩))
                  replace n40 := hk _ _ n40 rfl
                  replace n44 := hk _ _ n44 rfl
                  replace n52 := hk _ _ n52 rfl
                  replace n46 := hk _ _ n46 rfl
                  have n45 := n45'
                  replace hI := hI'
                  clear hk hI' n45'
                  obtain ⟨act9, rfl⟩ : ∃ x, x = a' := ⟨_, rfl⟩
                  refine RestF.same (d' := [1, 2, 3, 4, 6, 9, 10, 11, 12, 0, 5]) ?_ (by kernel_rfl)
                  rw [← hR]
                  exact st2n a2 c2 _ _ hI n45 n52 n46 hO1 hS1 hq1
                · have hn1 := below_new wo (tnoteB x)
                  have hbx1 : (wo.alloc (tnoteB x)).heap[wo.heap.size]? = some (tnoteB x) := heap_top _ _ rfl
                  have hS1 : (wo.alloc (tnoteB x)).heap[w.heap.size]? = some (rollB r) ∧ (wo.alloc (tnoteB x)).heap[w.heap.size + 1]? = some (tnoteB x) ∧ (wo.alloc (tnoteB x)).heap[u.heap.size]? = some (rollB r1) := (And.intro (heap_lft hS.1 hn1) (And.intro (heap_lft hS.2.1 hn1) (heap_lft hS.2.2 hn1)))
                  have hq1 := below_thn hq hn1
                  have hbv := hq.size
                  have hO1 := hO.below hn1
                  have hne1 : ∀ z : Addr, (some ⟨b1, 0, none⟩) = some z → wo.heap.size ≠ z.block := fun z hz e => by have := (hO.lt z hz).2; omega
                  obtain ⟨nw, hwe⟩ : ∃ y, wo.alloc (tnoteB x) = y := ⟨_, rfl⟩
                  rw [hwe] at hn1 hS1 hq1 hbx1 hO1
                  refine _root_.id (op_value (k := 7) (d := 47) (v := .slice (some ⟨wo.heap.size, 0, none⟩) 1 1) hI rfl rfl (by kernel_rfl) (Nat.lt_of_le_of_lt (by decide) hsz) (wanted_free rfl) (by have e46 := n46; have f46 := n46.eval; unfold At at e46; simp [go_sem, e46]; try rfl) (fun a' hI' n47' hk => ⟨fun _ => by rw [hwe]; exact hS1, ?_⟩))
                  replace n40 := hk _ _ n40 rfl
                  replace n44 := hk _ _ n44 rfl
                  replace n52 := hk _ _ n52 rfl
                  replace n46 := hk _ _ n46 rfl
                  have n47 := n47'
                  replace hI := hI'
                  clear hk hI' n47'
                  obtain ⟨act9, rfl⟩ : ∃ x, x = a' := ⟨_, rfl⟩
                  rw [hwe]
                  refine RestF.same (d' := [1, 2, 3, 4, 6, 9, 10, 11, 12, 7, 0]) ?_ (by kernel_rfl)
                  rw [← hR]
                  exact st1y b1 wo.heap.size _ _ hI n40 n44 n52 n47 hO1 hbx1 hbv hne1 hS1 hq1
              have st0n : ∀ (ac : Act) (wo : World), Kept (List.range' 40 15) a0 ac → At ac 44 (.slice r.na k r.nc) → At ac 52 (.slice (tailA r.na r.nc k 7) (r.nn - k) (r.nc - k)) → At ac 46 (tnoteV x) → (wo.heap[w.heap.size]? = some (rollB r) ∧ wo.heap[w.heap.size + 1]? = some (tnoteB x) ∧ wo.heap[u.heap.size]? = some (rollB r1)) → (Below V.heap.size V wo) → R 7 [1, 2, 3, 4, 6, 9, 10, 11, 12] ac wo := by
                intro ac wo hI n44 n52 n46 hS hq
                rw [hR]
                refine restF_split [0, 7] (by kernel_rfl) rfl (fun i9 hi9 => ?_)
                have hi9' : i9 = 0 ∨ i9 = 7 := by simpa using hi9
                clear hi9
                rcases hi9' with rfl | rfl
                · have hn1 := below_new wo (.cells #[] 34)
                  have hO1 : OwnVals (wo.alloc (.cells #[] 34)) V.heap.size 34 7 (some ⟨wo.heap.size, 0, none⟩) 0 0 (noteF d.N) := ownv_empty _ _ _ rfl hq.size _
                  have hS1 : (wo.alloc (.cells #[] 34)).heap[w.heap.size]? = some (rollB r) ∧ (wo.alloc (.cells #[] 34)).heap[w.heap.size + 1]? = some (tnoteB x) ∧ (wo.alloc (.cells #[] 34)).heap[u.heap.size]? = some (rollB r1) := (And.intro (heap_lft hS.1 hn1) (And.intro (heap_lft hS.2.1 hn1) (heap_lft hS.2.2 hn1)))
                  have hq1 := below_thn hq hn1
                  obtain ⟨nw, hwe⟩ : ∃ y, wo.alloc (.cells #[] 34) = y := ⟨_, rfl⟩
                  rw [hwe] at hn1 hO1 hS1 hq1
                  refine _root_.id (op_value (k := 0) (d := 40) (v := .slice (some ⟨wo.heap.size, 0, none⟩) 0 0) hI rfl rfl (by kernel_rfl) (Nat.lt_of_le_of_lt (by decide) hsz) (wanted_free rfl) (by simp [go_sem]; try rfl) (fun a' hI' n40' hk => ⟨fun _ => by rw [hwe]; exact hS1, ?_⟩))
                  replace n44 := hk _ _ n44 rfl
                  replace n52 := hk _ _ n52 rfl
                  replace n46 := hk _ _ n46 rfl
                  have n40 := n40'
                  replace hI := hI'
                  clear hk hI' n40'
                  obtain ⟨act9, rfl⟩ : ∃ x, x = a' := ⟨_, rfl⟩
                  rw [hwe]
                  refine RestF.same (d' := [1, 2, 3, 4, 6, 9, 10, 11, 12, 0]) ?_ (by kernel_rfl)
                  rw [← hR]
                  exact st1n wo.heap.size _ _ hI n40 n44 n52 n46 hO1 hS1 hq1
                · have hn1 := below_new wo (tnoteB x)
                  have hbx1 : (wo.alloc (tnoteB x)).heap[wo.heap.size]? = some (tnoteB x) := heap_top _ _ rfl
                  have hS1 : (wo.alloc (tnoteB x)).heap[w.heap.size]? = some (rollB r) ∧ (wo.alloc (tnoteB x)).heap[w.heap.size + 1]? = some (tnoteB x) ∧ (wo.alloc (tnoteB x)).heap[u.heap.size]? = some (rollB r1) := (And.intro (heap_lft hS.1 hn1) (And.intro (heap_lft hS.2.1 hn1) (heap_lft hS.2.2 hn1)))
                  have hq1 := below_thn hq hn1
                  have hbv := hq.size
                  obtain ⟨nw, hwe⟩ : ∃ y, wo.alloc (tnoteB x) = y := ⟨_, rfl⟩
                  rw [hwe] at hn1 hS1 hq1 hbx1
                  refine _root_.id (op_value (k := 7) (d := 47) (v := .slice (some ⟨wo.heap.size, 0, none⟩) 1 1) hI rfl rfl (by kernel_rfl) (Nat.lt_of_le_of_lt (by decide) hsz) (wanted_free rfl) (by have e46 := n46; have f46 := n46.eval; unfold At at e46; simp [go_sem, e46]; try rfl) (fun a' hI' n47' hk => ⟨fun _ => by rw [hwe]; exact hS1, ?_⟩))
                  replace n44 := hk _ _ n44 rfl
                  replace n52 := hk _ _ n52 rfl
                  replace n46 := hk _ _ n46 rfl
                  have n47 := n47'
                  replace hI := hI'
                  clear hk hI' n47'
                  obtain ⟨act9, rfl⟩ : ∃ x, x = a' := ⟨_, rfl⟩
                  rw [hwe]
                  refine RestF.same (d' := [1, 2, 3, 4, 6, 9, 10, 11, 12, 7]) ?_ (by kernel_rfl)
                  rw [← hR]
                  exact st0y wo.heap.size _ _ hI n44 n52 n47 hbx1 hbv hS1 hq1
              rw [hR]
              refine RestF.same (d' := [1, 2, 3, 4, 6, 9, 10, 11, 12]) ?_ (by kernel_rfl)
              rw [← hR]
              exact st0n _ _ hI n44 n52 n46 hS hq
            case rest =>
              obtain ⟨Z, rfl⟩ : ∃ x, x = wc := ⟨_, rfl⟩
              obtain ⟨a3, c3, h8, hov, hk8, hs8, hbz⟩ := hcut
              have HF8 := Lib.hid h8
              have HZ9 := Lib.hid ((hk8 (w.heap.size + 1 + 1) (by have := HS3.out; have := HVS.out; omega) (by have := HS3.out; have := HVS.out; omega)).trans HZ4.out)
              have hold : ∀ y : Addr, y.block < u.heap.size → Z.heap[y.block]? = u.heap[y.block]? := fun y hy => (hk8 _ (by have := HVS.out; omega) (by omega)).trans (HVU.out _ hy)
              have HOZ : Hid (OwnRoll Z w8.heap.size ⟨r1.pa, r1.pn, r1.pc, r1.wa, r1.wn, r1.wc, r1.ma, r1.mn, r1.mc, r1.sa, r1.sn, r1.sc, a3, r.nn + 1, c3⟩ { d with N := Pure.insN d.N k x }) := Lib.hid ⟨HO.out.p.kept fun y hy => hold y (HO.out.p.lt y hy).2, HO.out.g.kept fun y hy => hold y (HO.out.g.lt y hy).2, HO.out.m.kept fun y hy => hold y (HO.out.m.lt y hy).2, HO.out.s.kept fun y hy => hold y (HO.out.s.lt y hy).2, hov.base (by have := HVS.out; omega)⟩
              have HBZ : Hid (Below w.heap.size w Z) := Lib.hid hbz
              clear h8 hov hk8 hs8 hold hbz
              have hpr : Pure.press r1.pn d.P r1.wn d.W = true := by rw [HE.out.1, HE.out.2.1]; exact (Pure.checkE_zero HCE.out).1
              have hce : Pure.checkE (Pure.big r) (Pure.insD r d x) = Pure.err (Pure.roll ⟨r1.pa, r1.pn, r1.pc, r1.wa, r1.wn, r1.wc, r1.ma, r1.mn, r1.mc, r1.sa, r1.sn, r1.sc, a3, r.nn + 1, c3⟩ { d with N := Pure.insN d.N k x }) 90 := by
                have e9 : ({ d with N := Pure.insN d.N k x } : RollD) = Pure.insD r d x := by unfold Pure.insD; rw [HPOS.out]
                rw [e9, ← Pure.checkE_sz (r := Pure.big r) (r' := ⟨r1.pa, r1.pn, r1.pc, r1.wa, r1.wn, r1.wc, r1.ma, r1.mn, r1.mc, r1.sa, r1.sn, r1.sc, a3, r.nn + 1, c3⟩) _ HE.out.1 HE.out.2.1 HE.out.2.2.1 HE.out.2.2.2.1 rfl]
                unfold Pure.checkE
                rw [if_pos (by exact hpr)]
              have hp0 : Pure.putC r d = 0 := by
                unfold Pure.putC
                rw [if_pos HCE.out, decide_eq_true (show (r.nn : Int) < 24 by have := HFF.out; omega)]
                rfl
              have HPR := Lib.hid (And.intro hpr (And.intro hce hp0))
              clear hpr hce hp0
              obtain ⟨rv, hrv⟩ : ∃ b, Pure.roll ⟨r1.pa, r1.pn, r1.pc, r1.wa, r1.wn, r1.wc, r1.ma, r1.mn, r1.mc, r1.sa, r1.sn, r1.sc, a3, r.nn + 1, c3⟩ { d with N := Pure.insN d.N k x } = b := ⟨_, rfl⟩
              have HRV := Lib.hid hrv
              have s0 := heap_cell HF8.out (j := 0) rfl
              have s1 := heap_cell HF8.out (j := 1) rfl
              have s2 := heap_cell HF8.out (j := 2) rfl
              have s3 := heap_cell HF8.out (j := 3) rfl
              have s4 := heap_cell HF8.out (j := 4) rfl
              go_wp2_with fail
              refine (rRoll_any ⟨r1.pa, r1.pn, r1.pc, r1.wa, r1.wn, r1.wc, r1.ma, r1.mn, r1.mc, r1.sa, r1.sn, r1.sc, a3, r.nn + 1, c3⟩ { d with N := Pure.insN d.N k x } ⟨by have := HE.out.1; have := hN.p; dsimp only; omega, by have := HE.out.2.1; have := hN.w; dsimp only; omega, by have := HE.out.2.2.1; have := hN.m; dsimp only; omega, by have := HE.out.2.2.2.1; have := hN.s; dsimp only; omega, by have := HFF.out; dsimp only; omega⟩ HPR.out.1 _ HOZ.out.at).mono ?_
              rintro e w9 ⟨rfl, hb⟩
              rw [hrv]
              have HF9 := Lib.hid (heap_lft HF8.out hb)
              have HO9 := Lib.hid (HOZ.out.below hb)
              have HB9 := Lib.hid (below_thn HBZ.out hb)
              have HZ8 := HZ9
              have HZ9 := Lib.hid (heap_lft HZ8.out hb)
              clear hb hrv s0 s1 s2 s3 s4 HF8 HOZ HBZ HZ8
              cases rv
              · have HC9 : Hid (c = 91) := Lib.hid (by
                  rw [← HC.out]
                  unfold Pure.putE
                  rw [if_pos HPR.out.2.2, if_neg (by rw [HPR.out.2.1, HRV.out]; decide)])
                have z0 := heap_cell HZ9.out (j := 0) rfl
                have fz0 := heap_frozen HZ9.out 0
                have z1 := heap_cell HZ9.out (j := 1) rfl
                have fz1 := heap_frozen HZ9.out 1
                have z2 := heap_cell HZ9.out (j := 2) rfl
                have fz2 := heap_frozen HZ9.out 2
                have z3 := heap_cell HZ9.out (j := 3) rfl
                have fz3 := heap_frozen HZ9.out 3
                have z4 := heap_cell HZ9.out (j := 4) rfl
                have fz4 := heap_frozen HZ9.out 4
                go_wp2_with fail
                refine bodyPost_ret (v := .tuple #[rollV nilRoll, .int .i64 91]) (by simp [results, Tryz.results7, go_sem, z0, z1, z2, z3, z4, nilRoll]; try rfl) rfl ⟨nilRoll, by rw [HC9.out], by rw [HC9.out]; exact nil_out _ _ _ _ _ _ _ _, ?_⟩
                repeat (first | with_reducible exact HB9.out | with_reducible refine Below.setCell ?_ (by dsimp only; omega) _)
              · have HC9 : Hid (c = 0) := Lib.hid (by
                  rw [← HC.out]
                  unfold Pure.putE
                  rw [if_pos HPR.out.2.2, if_pos (by rw [HPR.out.2.1, HRV.out]; rfl)])
                have HSK := HS3
                have s0 := heap_cell HF9.out (j := 0) rfl
                have s1 := heap_cell HF9.out (j := 1) rfl
                have s2 := heap_cell HF9.out (j := 2) rfl
                have s3 := heap_cell HF9.out (j := 3) rfl
                have s4 := heap_cell HF9.out (j := 4) rfl
                have z0 := heap_cell HZ9.out (j := 0) rfl
                have fz0 := heap_frozen HZ9.out 0
                have z1 := heap_cell HZ9.out (j := 1) rfl
                have fz1 := heap_frozen HZ9.out 1
                have z2 := heap_cell HZ9.out (j := 2) rfl
                have fz2 := heap_frozen HZ9.out 2
                have z3 := heap_cell HZ9.out (j := 3) rfl
                have fz3 := heap_frozen HZ9.out 3
                have z4 := heap_cell HZ9.out (j := 4) rfl
                have fz4 := heap_frozen HZ9.out 4
                go_wp2_with fail
                refine bodyPost_ret (v := .tuple #[rollV ⟨r1.pa, r1.pn, r1.pc, r1.wa, r1.wn, r1.wc, r1.ma, r1.mn, r1.mc, r1.sa, r1.sn, r1.sc, a3, r.nn + 1, c3⟩, .int .i64 0]) (by simp [results, Tryz.results7, go_sem, z0, z1, z2, z3, z4]; try rfl) rfl ⟨⟨r1.pa, r1.pn, r1.pc, r1.wa, r1.wn, r1.wc, r1.ma, r1.mn, r1.mc, r1.sa, r1.sn, r1.sc, a3, r.nn + 1, c3⟩, by rw [HC9.out], ?_, ?_⟩
                · rw [HC9.out]
                  have e9 : ({ d with N := Pure.insN d.N k x } : RollD) = Pure.insD r d x := by unfold Pure.insD; rw [HPOS.out]
                  refine ⟨?_, HE.out.1, HE.out.2.1, HE.out.2.2.1, HE.out.2.2.2.1, rfl⟩
                  have h2 := HSK.out
                  rw [← e9]
                  refine OwnRoll.base (base := w8.heap.size) ?_ (by omega)
                  repeat (first | with_reducible exact HO9.out | with_reducible refine OwnRoll.set ?_ (by dsimp only; omega) _)
                · repeat (first | with_reducible exact HB9.out | with_reducible refine Below.setCell ?_ (by dsimp only; omega) _)
        · obtain rfl : k = r.nn := by omega
          have q1 : decide ((r.nn : Int) < (r.nn : Int)) = false := decide_eq_false (by omega)
          go_upto_region 7 with fail
          have xx0 := among_below x4
          have xx1 := among_below y0
          have HSt : Hid (Below wr.heap.size wr wr.drew) := Lib.hid (Below.refl _ _).drew
          have hne : Nonempty (Among (Below wr.heap.size wr)) := ⟨⟨_, HSt.out⟩⟩
          refine wp_region_class (Below wr.heap.size wr) (by kernel_rfl) (by kernel_rfl) HSt.out ?_
          repeat (go_big_quiet_step (fail))
          refine wpQuiet_nil ?_
          intro w8 hx
          have HB8 := Lib.hid (below_thn HBK.out (among_out hx))
          clear hx hne xx0 xx1
          clear x4 y0 q1
          have HPOS := Lib.hid (Pure.posN_eq (nn := r.nn) (N := d.N) (t := x.n) (i := r.nn) (Nat.le_refl _) HQ.out (fun h => by omega))
          have HKL := Lib.hid (Nat.le_refl r.nn)
          have HX3 := Lib.hid (heap_lft HX1.out HB8.out)
          have HY3 := Lib.hid (heap_lft HY1.out HB8.out)
          have HZ3 := Lib.hid (heap_lft HZ1.out HB8.out)
          have HB3 := Lib.hid (below_thn HB1.out HB8.out)
          have HR3 := Lib.hid (HR1.out.below HB8.out)
          have HS3 : Hid (w.heap.size + 3 ≤ w8.heap.size) := Lib.hid (by have := HS1.out; have := HB8.out.size; omega)
          have x0 := heap_cell HX3.out (j := 0) rfl
          have x1 := heap_cell HX3.out (j := 1) rfl
          have x2 := heap_cell HX3.out (j := 2) rfl
          have x3 := heap_cell HX3.out (j := 3) rfl
          have x4 := heap_cell HX3.out (j := 4) rfl
          go_wp2_with fail
          refine (rTwin_any r d hN HN.out _ HR3.out).mono ?_
          rintro e u ⟨r1, rfl, ho, e1, e2, e3, e4, e5, hb⟩
          have HE := Lib.hid (And.intro e1 (And.intro e2 (And.intro e3 (And.intro e4 e5))))
          obtain ⟨V, hV⟩ : ∃ V, u.alloc (rollB r1) = V := ⟨_, rfl⟩
          have hbu : Below u.heap.size u V := by rw [← hV]; exact below_new _ _
          have H8 : Hid (V.heap[u.heap.size]? = some (rollB r1)) := Lib.hid (by rw [← hV]; exact heap_top _ _ rfl)
          have HVS : Hid (w8.heap.size ≤ u.heap.size ∧ V.heap.size = u.heap.size + 1) := Lib.hid ⟨hb.size, by rw [← hV]; simp⟩
          have HO := Lib.hid ho
          have HVU : Hid (∀ i, i < u.heap.size → V.heap[i]? = u.heap[i]?) := Lib.hid (fun i hi => hbu.block i hi)
          have hbv := below_thn hb hbu
          have HX4 := Lib.hid (heap_lft HX3.out hbv)
          have HY4 := Lib.hid (heap_lft HY3.out hbv)
          have HZ4 := Lib.hid (heap_lft HZ3.out hbv)
          have HR4 := Lib.hid (HR3.out.below hbv)
          have HB4 := Lib.hid (below_thn HB3.out hbv)
          have HLT : Hid (w.heap.size < V.heap.size ∧ w.heap.size + 1 < V.heap.size ∧ u.heap.size < V.heap.size) := Lib.hid (by have := HS3.out; have := HVS.out; omega)
          clear ho hb hbu hbv e1 e2 e3 e4 e5 x0 x1 x2 x3 x4 HX3 HY3 HZ3 HR3 HB3 HX1 HY1 HZ1 HR1 HB1
          go_upto_region 10 with fail
          try rw [hV]
          clear hV
          go_cut [] from 40 to 54 (fun wx => ∃ a3 c3, wx.heap[u.heap.size]? = some (rollB ⟨r1.pa, r1.pn, r1.pc, r1.wa, r1.wn, r1.wc, r1.ma, r1.mn, r1.mc, r1.sa, r1.sn, r1.sc, a3, r.nn + 1, c3⟩) ∧ OwnVals wx V.heap.size 34 7 a3 (r.nn + 1) c3 (noteF (Pure.insN d.N r.nn x)) ∧ (∀ i, i < V.heap.size → i ≠ u.heap.size → wx.heap[i]? = V.heap[i]?) ∧ V.heap.size ≤ wx.heap.size ∧ Below w.heap.size w wx)
          case first =>
            rename_i J K' hJ hK'
            generalize hA : (Act.mk _ _ : Act) = a0
            have m2 : At a0 2 (.pointer (some ⟨w.heap.size, 0, none⟩)) := by rw [← hA]; rfl
            have m3 : At a0 3 (.pointer (some ⟨w.heap.size + 1, 0, none⟩)) := by rw [← hA]; rfl
            have m7 : At a0 7 (.int .i64 r.nn) := by rw [← hA]; rfl
            have m8 : At a0 8 (.pointer (some ⟨u.heap.size, 0, none⟩)) := by rw [← hA]; rfl
            have hsz : 54 < a0.tmps.size := by rw [← hA]; exact of_decide_eq_true (by kernel_rfl)
            have hfin : ∀ a' w', Kept (List.range' 40 15) a0 a' → (∃ a3 c3, w'.heap[u.heap.size]? = some (rollB ⟨r1.pa, r1.pn, r1.pc, r1.wa, r1.wn, r1.wc, r1.ma, r1.mn, r1.mc, r1.sa, r1.sn, r1.sc, a3, r.nn + 1, c3⟩) ∧ OwnVals w' V.heap.size 34 7 a3 (r.nn + 1) c3 (noteF (Pure.insN d.N r.nn x)) ∧ (∀ i, i < V.heap.size → i ≠ u.heap.size → w'.heap[i]? = V.heap[i]?) ∧ V.heap.size ≤ w'.heap.size ∧ Below w.heap.size w w') → K' a' w' := by
              intro a' w' hI hL
              refine hK' _ _ (Met.intro (hJ _ _ ⟨a'.tmps.getD 40 undef, a'.tmps.getD 41 undef, a'.tmps.getD 42 undef, a'.tmps.getD 43 undef, a'.tmps.getD 44 undef, a'.tmps.getD 45 undef, a'.tmps.getD 46 undef, a'.tmps.getD 47 undef, a'.tmps.getD 48 undef, a'.tmps.getD 49 undef, a'.tmps.getD 50 undef, a'.tmps.getD 51 undef, a'.tmps.getD 52 undef, a'.tmps.getD 53 undef, a'.tmps.getD 54 undef, hL, hI.eq.trans ?_⟩))
              rw [← hA]
              kernel_rfl
            have hI : Kept (List.range' 40 15) a0 a0 := Kept.refl _ _
            clear hA hJ hK' J
            refine with_pan (fun d _ _ _ _ h => by cases d <;> exact h) ?_
            intro hpan
            refine wp_region_restF (fun j => j == 15) (fun z => z.heap[w.heap.size]? = some (rollB r) ∧ z.heap[w.heap.size + 1]? = some (tnoteB x) ∧ z.heap[u.heap.size]? = some (rollB r1)) (by kernel_rfl) ?_
            obtain ⟨wz, hwz⟩ : ∃ x, V.drew = x := ⟨_, rfl⟩
            change RestF _ _ _ _ _ _ _ _ (V.drew)
            rw [hwz]
            have hq : Below V.heap.size V wz := by rw [← hwz]; exact (Below.refl _ _).drew
            clear hwz
            have hS : wz.heap[w.heap.size]? = some (rollB r) ∧ wz.heap[w.heap.size + 1]? = some (tnoteB x) ∧ wz.heap[u.heap.size]? = some (rollB r1) := ⟨heap_lft HX4.out hq, heap_lft HY4.out hq, heap_lft H8.out hq⟩
            refine restF_take (k := 1) (d := 41) (v := .pointer (some ⟨w.heap.size, 4, none⟩)) hI rfl rfl (by kernel_rfl) (Nat.lt_of_le_of_lt (by decide) hsz) (by kernel_rfl) hpan (by kernel_rfl) hS (wanted_free rfl) (fun z hz => by have n2 := hI.at m2 (by kernel_rfl); have e2 := n2; have f2 := n2.eval; unfold At at e2; simp [go_sem, e2]) (fun a' hI' n41' hk => ?_)
            have n41 := n41'
            replace hI := hI'
            clear hk hI' n41'
            obtain ⟨act9, rfl⟩ : ∃ x, x = a' := ⟨_, rfl⟩
            refine restF_take (k := 2) (d := 42) (v := .slice r.na r.nn r.nc) hI rfl rfl (by kernel_rfl) (Nat.lt_of_le_of_lt (by decide) hsz) (by kernel_rfl) hpan (by kernel_rfl) hS (wanted_free rfl) (fun z hz => by have e41 := n41; have f41 := n41.eval; unfold At at e41; have k4 := heap_cell hz.1 (j := 4) rfl; simp [go_sem, e41, k4]) (fun a' hI' n42' hk => ?_)
            replace n41 := hk _ _ n41 rfl
            have n42 := n42'
            replace hI := hI'
            clear hk hI' n42'
            obtain ⟨act9, rfl⟩ : ∃ x, x = a' := ⟨_, rfl⟩
            clear n41
            refine restF_take (k := 3) (d := 43) (v := .int .i64 r.nn) hI rfl rfl (by kernel_rfl) (Nat.lt_of_le_of_lt (by decide) hsz) (by kernel_rfl) hpan (by kernel_rfl) hS (wanted_free rfl) (fun z hz => by have n7 := hI.at m7 (by kernel_rfl); have e7 := n7; have f7 := n7.eval; unfold At at e7; simp [go_sem, e7]) (fun a' hI' n43' hk => ?_)
            replace n42 := hk _ _ n42 rfl
            have n43 := n43'
            replace hI := hI'
            clear hk hI' n43'
            obtain ⟨act9, rfl⟩ : ∃ x, x = a' := ⟨_, rfl⟩
            refine restF_take (k := 4) (d := 44) (v := .slice r.na r.nn r.nc) hI rfl rfl (by kernel_rfl) (Nat.lt_of_le_of_lt (by decide) hsz) (by kernel_rfl) hpan (by kernel_rfl) hS (wanted_free rfl) (fun z hz => by have e42 := n42; have f42 := n42.eval; unfold At at e42; have e43 := n43; have f43 := n43.eval; unfold At at e43; exact exec_slice_hi 28 34 (.tmp 42) (.tmp 43) 7 rfl Tryz.underlying28 (fun w => by kernel_rfl) n42.eval n43.eval (by have := HKL.out; have := HCAP.out; omega)) (fun a' hI' n44' hk => ?_)
            replace n42 := hk _ _ n42 rfl
            replace n43 := hk _ _ n43 rfl
            have n44 := n44'
            replace hI := hI'
            clear hk hI' n44'
            obtain ⟨act9, rfl⟩ : ∃ x, x = a' := ⟨_, rfl⟩
            clear n42
            clear n43
            refine restF_take (k := 6) (d := 46) (v := tnoteV x) hI rfl rfl (by kernel_rfl) (Nat.lt_of_le_of_lt (by decide) hsz) (by kernel_rfl) hpan (by kernel_rfl) hS (wanted_free rfl) (fun z hz => by have n3 := hI.at m3 (by kernel_rfl); have e3 := n3; have f3 := n3.eval; unfold At at e3; have k0 := heap_cell hz.2.1 (j := 0) rfl; have k1 := heap_cell hz.2.1 (j := 1) rfl; have k2 := heap_cell hz.2.1 (j := 2) rfl; have k3 := heap_cell hz.2.1 (j := 3) rfl; have k4 := heap_cell hz.2.1 (j := 4) rfl; have k5 := heap_cell hz.2.1 (j := 5) rfl; have k6 := heap_cell hz.2.1 (j := 6) rfl; simp [go_sem, e3, k0, k1, k2, k3, k4, k5, k6]) (fun a' hI' n46' hk => ?_)
            replace n44 := hk _ _ n44 rfl
            have n46 := n46'
            replace hI := hI'
            clear hk hI' n46'
            obtain ⟨act9, rfl⟩ : ∃ x, x = a' := ⟨_, rfl⟩
            refine restF_take (k := 9) (d := 49) (v := .pointer (some ⟨w.heap.size, 4, none⟩)) hI rfl rfl (by kernel_rfl) (Nat.lt_of_le_of_lt (by decide) hsz) (by kernel_rfl) hpan (by kernel_rfl) hS (wanted_free rfl) (fun z hz => by have n2 := hI.at m2 (by kernel_rfl); have e2 := n2; have f2 := n2.eval; unfold At at e2; simp [go_sem, e2]) (fun a' hI' n49' hk => ?_)
            replace n44 := hk _ _ n44 rfl
            replace n46 := hk _ _ n46 rfl
            have n49 := n49'
            replace hI := hI'
            clear hk hI' n49'
            obtain ⟨act9, rfl⟩ : ∃ x, x = a' := ⟨_, rfl⟩
            refine restF_take (k := 10) (d := 50) (v := .slice r.na r.nn r.nc) hI rfl rfl (by kernel_rfl) (Nat.lt_of_le_of_lt (by decide) hsz) (by kernel_rfl) hpan (by kernel_rfl) hS (wanted_free rfl) (fun z hz => by have e49 := n49; have f49 := n49.eval; unfold At at e49; have k4 := heap_cell hz.1 (j := 4) rfl; simp [go_sem, e49, k4]) (fun a' hI' n50' hk => ?_)
            replace n44 := hk _ _ n44 rfl
            replace n46 := hk _ _ n46 rfl
            replace n49 := hk _ _ n49 rfl
            have n50 := n50'
            replace hI := hI'
            clear hk hI' n50'
            obtain ⟨act9, rfl⟩ : ∃ x, x = a' := ⟨_, rfl⟩
            clear n49
            refine restF_take (k := 11) (d := 51) (v := .int .i64 r.nn) hI rfl rfl (by kernel_rfl) (Nat.lt_of_le_of_lt (by decide) hsz) (by kernel_rfl) hpan (by kernel_rfl) hS (wanted_free rfl) (fun z hz => by have n7 := hI.at m7 (by kernel_rfl); have e7 := n7; have f7 := n7.eval; unfold At at e7; simp [go_sem, e7]) (fun a' hI' n51' hk => ?_)
            replace n44 := hk _ _ n44 rfl
            replace n46 := hk _ _ n46 rfl
            replace n50 := hk _ _ n50 rfl
            have n51 := n51'
            replace hI := hI'
            clear hk hI' n51'
            obtain ⟨act9, rfl⟩ : ∃ x, x = a' := ⟨_, rfl⟩
            refine restF_take (k := 12) (d := 52) (v := .slice (tailA r.na r.nc r.nn 7) (r.nn - r.nn) (r.nc - r.nn)) hI rfl rfl (by kernel_rfl) (Nat.lt_of_le_of_lt (by decide) hsz) (by kernel_rfl) hpan (by kernel_rfl) hS (wanted_free rfl) (fun z hz => by have e50 := n50; have f50 := n50.eval; unfold At at e50; have e51 := n51; have f51 := n51.eval; unfold At at e51; exact exec_slice_lo 28 34 (.tmp 50) (.tmp 51) 7 rfl Tryz.underlying28 (fun w => by kernel_rfl) n50.eval n51.eval (by have := HKL.out; omega)) (fun a' hI' n52' hk => ?_)
            replace n44 := hk _ _ n44 rfl
            replace n46 := hk _ _ n46 rfl
            replace n50 := hk _ _ n50 rfl
            replace n51 := hk _ _ n51 rfl
            have n52 := n52'
            replace hI := hI'
            clear hk hI' n52'
            obtain ⟨act9, rfl⟩ : ∃ x, x = a' := ⟨_, rfl⟩
            clear n50
            clear n51
            refine restF_name (fun R hR => ?_)
            have st4y : ∀ (a1 : Option Addr) (c1 : Nat) (ac : Act) (wo : World), Kept (List.range' 40 15) a0 ac → At ac 53 (.slice a1 (r.nn + 1) c1) → (OwnVals wo V.heap.size 34 7 a1 (r.nn + 1) c1 (noteF (Pure.insN d.N r.nn x))) → (wo.heap[w.heap.size]? = some (rollB r) ∧ wo.heap[w.heap.size + 1]? = some (tnoteB x) ∧ wo.heap[u.heap.size]? = some (rollB r1)) → (Below V.heap.size V wo) → R 2 [1, 2, 3, 4, 6, 9, 10, 11, 12, 7, 0, 5, 8, 13] ac wo := by
              intro a1 c1 ac wo hI n53 hO hS hq
              rw [hR]
              refine restF_only (k := 14) (by kernel_rfl) (op_value (k := 14) (d := 54) (v := .pointer (some ⟨u.heap.size, 4, none⟩)) hI rfl rfl (by kernel_rfl) (Nat.lt_of_le_of_lt (by decide) hsz) (wanted_free rfl) (by have n8 := hI.at m8 (by kernel_rfl); have e8 := n8; have f8 := n8.eval; unfold At at e8; simp [go_sem, e8]; try rfl) (fun a' hI' n54' hk => ⟨fun _ => hS, ?_⟩))
              replace n53 := hk _ _ n53 rfl
              have n54 := n54'
              replace hI := hI'
              clear hk hI' n54'
              obtain ⟨act9, rfl⟩ : ∃ x, x = a' := ⟨_, rfl⟩
              have hS5 := heap_set hS.2.2 4 (.slice a1 (r.nn + 1) c1)
              refine restF_only (k := 15) (by kernel_rfl) (op_store (k := 15) rfl rfl (wanted_free rfl) (by have e53 := n53; have f53 := n53.eval; unfold At at e53; have e54 := n54; have f54 := n54.eval; unfold At at e54; have k4 := heap_cell hS.2.2 (j := 4) rfl; have f4 := heap_frozen hS.2.2 4; simp [go_sem, e53, e54, k4, f4]; try rfl) ⟨fun hf => absurd hf (by decide), ?_⟩)
              refine restF_done (by kernel_rfl) ?_
              refine hfin _ _ hI ⟨a1, c1, hS5, hO.neq hS.2.2 (by decide) 4 _, fun i hi hne => (setCell_other (by dsimp only; exact hne)).trans (hq.block i hi), by simpa using hq.size, (below_thn HB4.out hq).setCell (by have := HS3.out; have := HVS.out; dsimp only; omega) _⟩
            have st3y : ∀ (a1 : Option Addr) (c1 : Nat) (ac : Act) (wo : World), Kept (List.range' 40 15) a0 ac → At ac 48 (.slice a1 (r.nn + 1) c1) → At ac 52 (.slice (tailA r.na r.nc r.nn 7) (r.nn - r.nn) (r.nc - r.nn)) → (OwnVals wo V.heap.size 34 7 a1 (r.nn + 1) c1 (noteF (Pure.insN d.N r.nn x))) → (wo.heap[w.heap.size]? = some (rollB r) ∧ wo.heap[w.heap.size + 1]? = some (tnoteB x) ∧ wo.heap[u.heap.size]? = some (rollB r1)) → (Below V.heap.size V wo) → R 3 [1, 2, 3, 4, 6, 9, 10, 11, 12, 7, 0, 5, 8] ac wo := by
              intro a1 c1 ac wo hI n48 n52 hO hS hq
              rw [hR]
              obtain ⟨i0, hi, hz0, hz1, hz2⟩ := infoTNote
              obtain ⟨a2, c2, nw, hr, ho, hal, hb1, hfr⟩ := app_vals wo V.heap.size 34 28 28 7 56 i0 _ Tryz.underlying28 hi hz0 hz1 hz2 rfl (by decide) (by decide) hO (tailA r.na r.nc r.nn 7) (r.nn - r.nn) (r.nc - r.nn) (fun q => noteF d.N (r.nn * 7 + q)) (fun q => noteF_one _ _) ((HR4.out.below hq).n.vals.tail HKL.out HCAP.out) (fun e => by have := (HN.out.n (tailA_none e)); omega) (by have := HKL.out; have := HNB.out; omega) (by have := HKL.out; have := HNB.out; omega) hq.size
              rw [show r.nn + 1 + (r.nn - r.nn) = r.nn + 1 by have := HKL.out; omega] at hr ho
              have hO1 := ho.congr (G := noteF (Pure.insN d.N r.nn x)) (fun q hq => put_data3 d.N r.nn x q)
              have hS1 : nw.heap[w.heap.size]? = some (rollB r) ∧ nw.heap[w.heap.size + 1]? = some (tnoteB x) ∧ nw.heap[u.heap.size]? = some (rollB r1) := ⟨(hb1.block _ HLT.out.1).trans hS.1, (hb1.block _ HLT.out.2.1).trans hS.2.1, (hb1.block _ HLT.out.2.2).trans hS.2.2⟩
              have hq1 := hq.trans hb1
              refine restF_only (k := 13) (by kernel_rfl) (op_value (k := 13) (d := 53) (v := .slice a2 (r.nn + 1) c2) hI rfl rfl (by kernel_rfl) (Nat.lt_of_le_of_lt (by decide) hsz) (wanted_free rfl) (exec_append (.tmp 48) (.tmp 52) 28 28 rfl n48.eval n52.eval (hr)) (fun a' hI' n53' hk => ⟨fun _ => hS1, ?_⟩))
              replace n48 := hk _ _ n48 rfl
              replace n52 := hk _ _ n52 rfl
              have n53 := n53'
              replace hI := hI'
              clear hk hI' n53'
              obtain ⟨act9, rfl⟩ : ∃ x, x = a' := ⟨_, rfl⟩
              refine RestF.same (d' := [1, 2, 3, 4, 6, 9, 10, 11, 12, 7, 0, 5, 8, 13]) ?_ (by kernel_rfl)
              rw [← hR]
              exact st4y a2 c2 _ _ hI n53 hO1 hS1 hq1
            have st2y : ∀ (a1 : Option Addr) (c1 : Nat) (bx : Nat) (ac : Act) (wo : World), Kept (List.range' 40 15) a0 ac → At ac 45 (.slice a1 r.nn c1) → At ac 52 (.slice (tailA r.na r.nc r.nn 7) (r.nn - r.nn) (r.nc - r.nn)) → At ac 47 (.slice (some ⟨bx, 0, none⟩) 1 1) → (OwnVals wo V.heap.size 34 7 a1 r.nn c1 (noteF d.N)) → (wo.heap[bx]? = some (tnoteB x)) → (V.heap.size ≤ bx) → (∀ z : Addr, a1 = some z → bx ≠ z.block) → (wo.heap[w.heap.size]? = some (rollB r) ∧ wo.heap[w.heap.size + 1]? = some (tnoteB x) ∧ wo.heap[u.heap.size]? = some (rollB r1)) → (Below V.heap.size V wo) → R 4 [1, 2, 3, 4, 6, 9, 10, 11, 12, 7, 0, 5] ac wo := by
              intro a1 c1 bx ac wo hI n45 n52 n47 hO hbx hbv hne hS hq
              rw [hR]
              obtain ⟨i0, hi, hz0, hz1, hz2⟩ := infoTNote
              obtain ⟨a2, c2, nw, hr, ho, hal, hb1, hfr⟩ := app_vals wo V.heap.size 34 28 28 7 56 i0 _ Tryz.underlying28 hi hz0 hz1 hz2 rfl (by decide) (by decide) hO (some ⟨bx, 0, none⟩) 1 1 (noteF fun _ => x) (noteF_one _) (note_one hbx).vals (fun e => by cases e) (by have := HKL.out; have := HNB.out; omega) (by have := HKL.out; have := HNB.out; omega) hq.size
              have hO1 := ho.congr (G := noteF (Pure.insN d.N r.nn x)) (fun q hq => put_data2 d.N r.nn x q hq)
              have hS1 : nw.heap[w.heap.size]? = some (rollB r) ∧ nw.heap[w.heap.size + 1]? = some (tnoteB x) ∧ nw.heap[u.heap.size]? = some (rollB r1) := ⟨(hb1.block _ HLT.out.1).trans hS.1, (hb1.block _ HLT.out.2.1).trans hS.2.1, (hb1.block _ HLT.out.2.2).trans hS.2.2⟩
              have hq1 := hq.trans hb1
              refine restF_only (k := 8) (by kernel_rfl) (op_value (k := 8) (d := 48) (v := .slice a2 (r.nn + 1) c2) hI rfl rfl (by kernel_rfl) (Nat.lt_of_le_of_lt (by decide) hsz) (wanted_free rfl) (exec_append (.tmp 45) (.tmp 47) 28 28 rfl n45.eval n47.eval (hr)) (fun a' hI' n48' hk => ⟨fun _ => hS1, ?_⟩))
              replace n45 := hk _ _ n45 rfl
              replace n52 := hk _ _ n52 rfl
              replace n47 := hk _ _ n47 rfl
              have n48 := n48'
              replace hI := hI'
              clear hk hI' n48'
              obtain ⟨act9, rfl⟩ : ∃ x, x = a' := ⟨_, rfl⟩
              refine RestF.same (d' := [1, 2, 3, 4, 6, 9, 10, 11, 12, 7, 0, 5, 8]) ?_ (by kernel_rfl)
              rw [← hR]
              exact st3y a2 c2 _ _ hI n48 n52 hO1 hS1 hq1
            have st1y : ∀ (b1 : Nat) (bx : Nat) (ac : Act) (wo : World), Kept (List.range' 40 15) a0 ac → At ac 40 (.slice (some ⟨b1, 0, none⟩) 0 0) → At ac 44 (.slice r.na r.nn r.nc) → At ac 52 (.slice (tailA r.na r.nc r.nn 7) (r.nn - r.nn) (r.nc - r.nn)) → At ac 47 (.slice (some ⟨bx, 0, none⟩) 1 1) → (OwnVals wo V.heap.size 34 7 (some ⟨b1, 0, none⟩) 0 0 (noteF d.N)) → (wo.heap[bx]? = some (tnoteB x)) → (V.heap.size ≤ bx) → (∀ z : Addr, (some ⟨b1, 0, none⟩) = some z → bx ≠ z.block) → (wo.heap[w.heap.size]? = some (rollB r) ∧ wo.heap[w.heap.size + 1]? = some (tnoteB x) ∧ wo.heap[u.heap.size]? = some (rollB r1)) → (Below V.heap.size V wo) → R 5 [1, 2, 3, 4, 6, 9, 10, 11, 12, 7, 0] ac wo := by
              intro b1 bx ac wo hI n40 n44 n52 n47 hO hbx hbv hne hS hq
              rw [hR]
              obtain ⟨i0, hi, hz0, hz1, hz2⟩ := infoTNote
              obtain ⟨a2, c2, nw, hr, ho, hal, hb1, hfr⟩ := app_vals wo V.heap.size 34 28 28 7 56 i0 _ Tryz.underlying28 hi hz0 hz1 hz2 rfl (by decide) (by decide) hO r.na r.nn r.nc (noteF d.N) (noteF_one _) ((HR4.out.below hq).n.vals.head HKL.out) (fun e => by have := (HN.out.n e); have := HKL.out; omega) (by have := HKL.out; have := HNB.out; omega) (by have := HKL.out; have := HNB.out; omega) hq.size
              rw [Nat.zero_add] at hr ho
              have hO1 := ho.congr (G := noteF d.N) (fun q hq => by simp [joinV])
              have hS1 : nw.heap[w.heap.size]? = some (rollB r) ∧ nw.heap[w.heap.size + 1]? = some (tnoteB x) ∧ nw.heap[u.heap.size]? = some (rollB r1) := ⟨(hb1.block _ HLT.out.1).trans hS.1, (hb1.block _ HLT.out.2.1).trans hS.2.1, (hb1.block _ HLT.out.2.2).trans hS.2.2⟩
              have hq1 := hq.trans hb1
              have hbx1 : nw.heap[bx]? = some (tnoteB x) := (hal bx (Array.getElem?_eq_some_iff.1 hbx).1 hne).trans hbx
              have hne1 : ∀ z : Addr, a2 = some z → bx ≠ z.block := fun z hz e => by
                rcases hfr z hz with g | g
                · exact hne z g e
                · have := (Array.getElem?_eq_some_iff.1 hbx).1; omega
              refine restF_only (k := 5) (by kernel_rfl) (op_value (k := 5) (d := 45) (v := .slice a2 r.nn c2) hI rfl rfl (by kernel_rfl) (Nat.lt_of_le_of_lt (by decide) hsz) (wanted_free rfl) (exec_append (.tmp 40) (.tmp 44) 28 28 rfl n40.eval n44.eval (hr)) (fun a' hI' n45' hk => ⟨fun _ => hS1, ?_⟩))
              replace n40 := hk _ _ n40 rfl
              replace n44 := hk _ _ n44 rfl
              replace n52 := hk _ _ n52 rfl
              replace n47 := hk _ _ n47 rfl
              have n45 := n45'
              replace hI := hI'
              clear hk hI' n45'
              obtain ⟨act9, rfl⟩ : ∃ x, x = a' := ⟨_, rfl⟩
              refine RestF.same (d' := [1, 2, 3, 4, 6, 9, 10, 11, 12, 7, 0, 5]) ?_ (by kernel_rfl)
              rw [← hR]
              exact st2y a2 c2 bx _ _ hI n45 n52 n47 hO1 hbx1 hbv hne1 hS1 hq1
            have st2n : ∀ (a1 : Option Addr) (c1 : Nat) (ac : Act) (wo : World), Kept (List.range' 40 15) a0 ac → At ac 45 (.slice a1 r.nn c1) → At ac 52 (.slice (tailA r.na r.nc r.nn 7) (r.nn - r.nn) (r.nc - r.nn)) → At ac 46 (tnoteV x) → (OwnVals wo V.heap.size 34 7 a1 r.nn c1 (noteF d.N)) → (wo.heap[w.heap.size]? = some (rollB r) ∧ wo.heap[w.heap.size + 1]? = some (tnoteB x) ∧ wo.heap[u.heap.size]? = some (rollB r1)) → (Below V.heap.size V wo) → R 5 [1, 2, 3, 4, 6, 9, 10, 11, 12, 0, 5] ac wo := by
              intro a1 c1 ac wo hI n45 n52 n46 hO hS hq
              rw [hR]
              have hn1 := below_new wo (tnoteB x)
              have hbx1 : (wo.alloc (tnoteB x)).heap[wo.heap.size]? = some (tnoteB x) := heap_top _ _ rfl
              have hS1 : (wo.alloc (tnoteB x)).heap[w.heap.size]? = some (rollB r) ∧ (wo.alloc (tnoteB x)).heap[w.heap.size + 1]? = some (tnoteB x) ∧ (wo.alloc (tnoteB x)).heap[u.heap.size]? = some (rollB r1) := (And.intro (heap_lft hS.1 hn1) (And.intro (heap_lft hS.2.1 hn1) (heap_lft hS.2.2 hn1)))
              have hq1 := below_thn hq hn1
              have hbv := hq.size
              have hO1 := hO.below hn1
              have hne1 : ∀ z : Addr, a1 = some z → wo.heap.size ≠ z.block := fun z hz e => by have := (hO.lt z hz).2; omega
              obtain ⟨nw, hwe⟩ : ∃ y, wo.alloc (tnoteB x) = y := ⟨_, rfl⟩
              rw [hwe] at hn1 hS1 hq1 hbx1 hO1
              refine restF_only (k := 7) (by kernel_rfl) (op_value (k := 7) (d := 47) (v := .slice (some ⟨wo.heap.size, 0, none⟩) 1 1) hI rfl rfl (by kernel_rfl) (Nat.lt_of_le_of_lt (by decide) hsz) (wanted_free rfl) (by have e46 := n46; have f46 := n46.eval; unfold At at e46; simp [go_sem, e46]; try rfl) (fun a' hI' n47' hk => ⟨fun _ => by rw [hwe]; exact hS1, ?_⟩))
              replace n45 := hk _ _ n45 rfl
              replace n52 := hk _ _ n52 rfl
              replace n46 := hk _ _ n46 rfl
              have n47 := n47'
              replace hI := hI'
              clear hk hI' n47'
              obtain ⟨act9, rfl⟩ : ∃ x, x = a' := ⟨_, rfl⟩
              rw [hwe]
              refine RestF.same (d' := [1, 2, 3, 4, 6, 9, 10, 11, 12, 7, 0, 5]) ?_ (by kernel_rfl)
              rw [← hR]
              exact st2y a1 c1 wo.heap.size _ _ hI n45 n52 n47 hO1 hbx1 hbv hne1 hS1 hq1
            have st0y : ∀ (bx : Nat) (ac : Act) (wo : World), Kept (List.range' 40 15) a0 ac → At ac 44 (.slice r.na r.nn r.nc) → At ac 52 (.slice (tailA r.na r.nc r.nn 7) (r.nn - r.nn) (r.nc - r.nn)) → At ac 47 (.slice (some ⟨bx, 0, none⟩) 1 1) → (wo.heap[bx]? = some (tnoteB x)) → (V.heap.size ≤ bx) → (wo.heap[w.heap.size]? = some (rollB r) ∧ wo.heap[w.heap.size + 1]? = some (tnoteB x) ∧ wo.heap[u.heap.size]? = some (rollB r1)) → (Below V.heap.size V wo) → R 6 [1, 2, 3, 4, 6, 9, 10, 11, 12, 7] ac wo := by
              intro bx ac wo hI n44 n52 n47 hbx hbv hS hq
              rw [hR]
              have hn1 := below_new wo (.cells #[] 34)
              have hO1 : OwnVals (wo.alloc (.cells #[] 34)) V.heap.size 34 7 (some ⟨wo.heap.size, 0, none⟩) 0 0 (noteF d.N) := ownv_empty _ _ _ rfl hq.size _
              have hS1 : (wo.alloc (.cells #[] 34)).heap[w.heap.size]? = some (rollB r) ∧ (wo.alloc (.cells #[] 34)).heap[w.heap.size + 1]? = some (tnoteB x) ∧ (wo.alloc (.cells #[] 34)).heap[u.heap.size]? = some (rollB r1) := (And.intro (heap_lft hS.1 hn1) (And.intro (heap_lft hS.2.1 hn1) (heap_lft hS.2.2 hn1)))
              have hq1 := below_thn hq hn1
              have hbx1 := heap_lft hbx hn1
              have hne1 : ∀ z : Addr, (some ⟨wo.heap.size, 0, none⟩ : Option Addr) = some z → bx ≠ z.block := fun z hz e => by cases hz; have := (Array.getElem?_eq_some_iff.1 hbx).1; dsimp only at e; omega
              obtain ⟨nw, hwe⟩ : ∃ y, wo.alloc (.cells #[] 34) = y := ⟨_, rfl⟩
              rw [hwe] at hn1 hO1 hS1 hq1 hbx1
              refine restF_only (k := 0) (by kernel_rfl) (op_value (k := 0) (d := 40) (v := .slice (some ⟨wo.heap.size, 0, none⟩) 0 0) hI rfl rfl (by kernel_rfl) (Nat.lt_of_le_of_lt (by decide) hsz) (wanted_free rfl) (by simp [go_sem]; try rfl) (fun a' hI' n40' hk => ⟨fun _ => by rw [hwe]; exact hS1, ?_⟩))
              replace n44 := hk _ _ n44 rfl
              replace n52 := hk _ _ n52 rfl
              replace n47 := hk _ _ n47 rfl
              have n40 := n40'
              replace hI := hI'
              clear hk hI' n40'
              obtain ⟨act9, rfl⟩ : ∃ x, x = a' := ⟨_, rfl⟩
              rw [hwe]
              refine RestF.same (d' := [1, 2, 3, 4, 6, 9, 10, 11, 12, 7, 0]) ?_ (by kernel_rfl)
              rw [← hR]
              exact st1y wo.heap.size bx _ _ hI n40 n44 n52 n47 hO1 hbx1 hbv hne1 hS1 hq1
            have st1n : ∀ (b1 : Nat) (ac : Act) (wo : World), Kept (List.range' 40 15) a0 ac → At ac 40 (.slice (some ⟨b1, 0, none⟩) 0 0) → At ac 44 (.slice r.na r.nn r.nc) → At ac 52 (.slice (tailA r.na r.nc r.nn 7) (r.nn - r.nn) (r.nc - r.nn)) → At ac 46 (tnoteV x) → (OwnVals wo V.heap.size 34 7 (some ⟨b1, 0, none⟩) 0 0 (noteF d.N)) → (wo.heap[w.heap.size]? = some (rollB r) ∧ wo.heap[w.heap.size + 1]? = some (tnoteB x) ∧ wo.heap[u.heap.size]? = some (rollB r1)) → (Below V.heap.size V wo) → R 6 [1, 2, 3, 4, 6, 9, 10, 11, 12, 0] ac wo := by
              intro b1 ac wo hI n40 n44 n52 n46 hO hS hq
              rw [hR]
              refine restF_split [5, 7] (by kernel_rfl) rfl (fun i9 hi9 => ?_)
              have hi9' : i9 = 5 ∨ i9 = 7 := by simpa using hi9
              clear hi9
              rcases hi9' with rfl | rfl
              · obtain ⟨i0, hi, hz0, hz1, hz2⟩ := infoTNote
                obtain ⟨a2, c2, nw, hr, ho, hal, hb1, hfr⟩ := app_vals wo V.heap.size 34 28 28 7 56 i0 _ Tryz.underlying28 hi hz0 hz1 hz2 rfl (by decide) (by decide) hO r.na r.nn r.nc (noteF d.N) (noteF_one _) ((HR4.out.below hq).n.vals.head HKL.out) (fun e => by have := (HN.out.n e); have := HKL.out; omega) (by have := HKL.out; have := HNB.out; omega) (by have := HKL.out; have := HNB.out; omega) hq.size
                rw [Nat.zero_add] at hr ho
                have hO1 := ho.congr (G := noteF d.N) (fun q hq => by simp [joinV])
                have hS1 : nw.heap[w.heap.size]? = some (rollB r) ∧ nw.heap[w.heap.size + 1]? = some (tnoteB x) ∧ nw.heap[u.heap.size]? = some (rollB r1) := ⟨(hb1.block _ HLT.out.1).trans hS.1, (hb1.block _ HLT.out.2.1).trans hS.2.1, (hb1.block _ HLT.out.2.2).trans hS.2.2⟩
                have hq1 := hq.trans hb1
                refine _root_.id (op_value (k := 5) (d := 45) (v := .slice a2 r.nn c2) hI rfl rfl (by kernel_rfl) (Nat.lt_of_le_of_lt (by decide) hsz) (wanted_free rfl) (exec_append (.tmp 40) (.tmp 44) 28 28 rfl n40.eval n44.eval (hr)) (fun a' hI' n45' hk => ⟨fun _ => hS1, ?_⟩))
                replace n40 := hk _ _ n40 rfl
                replace n44 := hk _ _ n44 rfl
                replace n52 := hk _ _ n52 rfl
                replace n46 := hk _ _ n46 rfl
                have n45 := n45'
                replace hI := hI'
                clear hk hI' n45'
                obtain ⟨act9, rfl⟩ : ∃ x, x = a' := ⟨_, rfl⟩
                refine RestF.same (d' := [1, 2, 3, 4, 6, 9, 10, 11, 12, 0, 5]) ?_ (by kernel_rfl)
                rw [← hR]
                exact st2n a2 c2 _ _ hI n45 n52 n46 hO1 hS1 hq1
              · have hn1 := below_new wo (tnoteB x)
                have hbx1 : (wo.alloc (tnoteB x)).heap[wo.heap.size]? = some (tnoteB x) := heap_top _ _ rfl
                have hS1 : (wo.alloc (tnoteB x)).heap[w.heap.size]? = some (rollB r) ∧ (wo.alloc (tnoteB x)).heap[w.heap.size + 1]? = some (tnoteB x) ∧ (wo.alloc (tnoteB x)).heap[u.heap.size]? = some (rollB r1) := (And.intro (heap_lft hS.1 hn1) (And.intro (heap_lft hS.2.1 hn1) (heap_lft hS.2.2 hn1)))
                have hq1 := below_thn hq hn1
                have hbv := hq.size
                have hO1 := hO.below hn1
                have hne1 : ∀ z : Addr, (some ⟨b1, 0, none⟩) = some z → wo.heap.size ≠ z.block := fun z hz e => by have := (hO.lt z hz).2; omega
                obtain ⟨nw, hwe⟩ : ∃ y, wo.alloc (tnoteB x) = y := ⟨_, rfl⟩
                rw [hwe] at hn1 hS1 hq1 hbx1 hO1
                refine _root_.id (op_value (k := 7) (d := 47) (v := .slice (some ⟨wo.heap.size, 0, none⟩) 1 1) hI rfl rfl (by kernel_rfl) (Nat.lt_of_le_of_lt (by decide) hsz) (wanted_free rfl) (by have e46 := n46; have f46 := n46.eval; unfold At at e46; simp [go_sem, e46]; try rfl) (fun a' hI' n47' hk => ⟨fun _ => by rw [hwe]; exact hS1, ?_⟩))
                replace n40 := hk _ _ n40 rfl
                replace n44 := hk _ _ n44 rfl
                replace n52 := hk _ _ n52 rfl
                replace n46 := hk _ _ n46 rfl
                have n47 := n47'
                replace hI := hI'
                clear hk hI' n47'
                obtain ⟨act9, rfl⟩ : ∃ x, x = a' := ⟨_, rfl⟩
                rw [hwe]
                refine RestF.same (d' := [1, 2, 3, 4, 6, 9, 10, 11, 12, 7, 0]) ?_ (by kernel_rfl)
                rw [← hR]
                exact st1y b1 wo.heap.size _ _ hI n40 n44 n52 n47 hO1 hbx1 hbv hne1 hS1 hq1
            have st0n : ∀ (ac : Act) (wo : World), Kept (List.range' 40 15) a0 ac → At ac 44 (.slice r.na r.nn r.nc) → At ac 52 (.slice (tailA r.na r.nc r.nn 7) (r.nn - r.nn) (r.nc - r.nn)) → At ac 46 (tnoteV x) → (wo.heap[w.heap.size]? = some (rollB r) ∧ wo.heap[w.heap.size + 1]? = some (tnoteB x) ∧ wo.heap[u.heap.size]? = some (rollB r1)) → (Below V.heap.size V wo) → R 7 [1, 2, 3, 4, 6, 9, 10, 11, 12] ac wo := by
              intro ac wo hI n44 n52 n46 hS hq
              rw [hR]
              refine restF_split [0, 7] (by kernel_rfl) rfl (fun i9 hi9 => ?_)
              have hi9' : i9 = 0 ∨ i9 = 7 := by simpa using hi9
              clear hi9
              rcases hi9' with rfl | rfl
              · have hn1 := below_new wo (.cells #[] 34)
                have hO1 : OwnVals (wo.alloc (.cells #[] 34)) V.heap.size 34 7 (some ⟨wo.heap.size, 0, none⟩) 0 0 (noteF d.N) := ownv_empty _ _ _ rfl hq.size _
                have hS1 : (wo.alloc (.cells #[] 34)).heap[w.heap.size]? = some (rollB r) ∧ (wo.alloc (.cells #[] 34)).heap[w.heap.size + 1]? = some (tnoteB x) ∧ (wo.alloc (.cells #[] 34)).heap[u.heap.size]? = some (rollB r1) := (And.intro (heap_lft hS.1 hn1) (And.intro (heap_lft hS.2.1 hn1) (heap_lft hS.2.2 hn1)))
                have hq1 := below_thn hq hn1
                obtain ⟨nw, hwe⟩ : ∃ y, wo.alloc (.cells #[] 34) = y := ⟨_, rfl⟩
                rw [hwe] at hn1 hO1 hS1 hq1
                refine _root_.id (op_value (k := 0) (d := 40) (v := .slice (some ⟨wo.heap.size, 0, none⟩) 0 0) hI rfl rfl (by kernel_rfl) (Nat.lt_of_le_of_lt (by decide) hsz) (wanted_free rfl) (by simp [go_sem]; try rfl) (fun a' hI' n40' hk => ⟨fun _ => by rw [hwe]; exact hS1, ?_⟩))
                replace n44 := hk _ _ n44 rfl
                replace n52 := hk _ _ n52 rfl
                replace n46 := hk _ _ n46 rfl
                have n40 := n40'
                replace hI := hI'
                clear hk hI' n40'
                obtain ⟨act9, rfl⟩ : ∃ x, x = a' := ⟨_, rfl⟩
                rw [hwe]
                refine RestF.same (d' := [1, 2, 3, 4, 6, 9, 10, 11, 12, 0]) ?_ (by kernel_rfl)
                rw [← hR]
                exact st1n wo.heap.size _ _ hI n40 n44 n52 n46 hO1 hS1 hq1
              · have hn1 := below_new wo (tnoteB x)
                have hbx1 : (wo.alloc (tnoteB x)).heap[wo.heap.size]? = some (tnoteB x) := heap_top _ _ rfl
                have hS1 : (wo.alloc (tnoteB x)).heap[w.heap.size]? = some (rollB r) ∧ (wo.alloc (tnoteB x)).heap[w.heap.size + 1]? = some (tnoteB x) ∧ (wo.alloc (tnoteB x)).heap[u.heap.size]? = some (rollB r1) := (And.intro (heap_lft hS.1 hn1) (And.intro (heap_lft hS.2.1 hn1) (heap_lft hS.2.2 hn1)))
                have hq1 := below_thn hq hn1
                have hbv := hq.size
                obtain ⟨nw, hwe⟩ : ∃ y, wo.alloc (tnoteB x) = y := ⟨_, rfl⟩
                rw [hwe] at hn1 hS1 hq1 hbx1
                refine _root_.id (op_value (k := 7) (d := 47) (v := .slice (some ⟨wo.heap.size, 0, none⟩) 1 1) hI rfl rfl (by kernel_rfl) (Nat.lt_of_le_of_lt (by decide) hsz) (wanted_free rfl) (by have e46 := n46; have f46 := n46.eval; unfold At at e46; simp [go_sem, e46]; try rfl) (fun a' hI' n47' hk => ⟨fun _ => by rw [hwe]; exact hS1, ?_⟩))
                replace n44 := hk _ _ n44 rfl
                replace n52 := hk _ _ n52 rfl
                replace n46 := hk _ _ n46 rfl
                have n47 := n47'
                replace hI := hI'
                clear hk hI' n47'
                obtain ⟨act9, rfl⟩ : ∃ x, x = a' := ⟨_, rfl⟩
                rw [hwe]
                refine RestF.same (d' := [1, 2, 3, 4, 6, 9, 10, 11, 12, 7]) ?_ (by kernel_rfl)
                rw [← hR]
                exact st0y wo.heap.size _ _ hI n44 n52 n47 hbx1 hbv hS1 hq1
            rw [hR]
            refine RestF.same (d' := [1, 2, 3, 4, 6, 9, 10, 11, 12]) ?_ (by kernel_rfl)
            rw [← hR]
            exact st0n _ _ hI n44 n52 n46 hS hq
          case rest =>
            obtain ⟨Z, rfl⟩ : ∃ x, x = wc := ⟨_, rfl⟩
            obtain ⟨a3, c3, h8, hov, hk8, hs8, hbz⟩ := hcut
            have HF8 := Lib.hid h8
            have HZ9 := Lib.hid ((hk8 (w.heap.size + 1 + 1) (by have := HS3.out; have := HVS.out; omega) (by have := HS3.out; have := HVS.out; omega)).trans HZ4.out)
            have hold : ∀ y : Addr, y.block < u.heap.size → Z.heap[y.block]? = u.heap[y.block]? := fun y hy => (hk8 _ (by have := HVS.out; omega) (by omega)).trans (HVU.out _ hy)
            have HOZ : Hid (OwnRoll Z w8.heap.size ⟨r1.pa, r1.pn, r1.pc, r1.wa, r1.wn, r1.wc, r1.ma, r1.mn, r1.mc, r1.sa, r1.sn, r1.sc, a3, r.nn + 1, c3⟩ { d with N := Pure.insN d.N r.nn x }) := Lib.hid ⟨HO.out.p.kept fun y hy => hold y (HO.out.p.lt y hy).2, HO.out.g.kept fun y hy => hold y (HO.out.g.lt y hy).2, HO.out.m.kept fun y hy => hold y (HO.out.m.lt y hy).2, HO.out.s.kept fun y hy => hold y (HO.out.s.lt y hy).2, hov.base (by have := HVS.out; omega)⟩
            have HBZ : Hid (Below w.heap.size w Z) := Lib.hid hbz
            clear h8 hov hk8 hs8 hold hbz
            have hpr : Pure.press r1.pn d.P r1.wn d.W = true := by rw [HE.out.1, HE.out.2.1]; exact (Pure.checkE_zero HCE.out).1
            have hce : Pure.checkE (Pure.big r) (Pure.insD r d x) = Pure.err (Pure.roll ⟨r1.pa, r1.pn, r1.pc, r1.wa, r1.wn, r1.wc, r1.ma, r1.mn, r1.mc, r1.sa, r1.sn, r1.sc, a3, r.nn + 1, c3⟩ { d with N := Pure.insN d.N r.nn x }) 90 := by
              have e9 : ({ d with N := Pure.insN d.N r.nn x } : RollD) = Pure.insD r d x := by unfold Pure.insD; rw [HPOS.out]
              rw [e9, ← Pure.checkE_sz (r := Pure.big r) (r' := ⟨r1.pa, r1.pn, r1.pc, r1.wa, r1.wn, r1.wc, r1.ma, r1.mn, r1.mc, r1.sa, r1.sn, r1.sc, a3, r.nn + 1, c3⟩) _ HE.out.1 HE.out.2.1 HE.out.2.2.1 HE.out.2.2.2.1 rfl]
              unfold Pure.checkE
              rw [if_pos (by exact hpr)]
            have hp0 : Pure.putC r d = 0 := by
              unfold Pure.putC
              rw [if_pos HCE.out, decide_eq_true (show (r.nn : Int) < 24 by have := HFF.out; omega)]
              rfl
            have HPR := Lib.hid (And.intro hpr (And.intro hce hp0))
            clear hpr hce hp0
            obtain ⟨rv, hrv⟩ : ∃ b, Pure.roll ⟨r1.pa, r1.pn, r1.pc, r1.wa, r1.wn, r1.wc, r1.ma, r1.mn, r1.mc, r1.sa, r1.sn, r1.sc, a3, r.nn + 1, c3⟩ { d with N := Pure.insN d.N r.nn x } = b := ⟨_, rfl⟩
            have HRV := Lib.hid hrv
            have s0 := heap_cell HF8.out (j := 0) rfl
            have s1 := heap_cell HF8.out (j := 1) rfl
            have s2 := heap_cell HF8.out (j := 2) rfl
            have s3 := heap_cell HF8.out (j := 3) rfl
            have s4 := heap_cell HF8.out (j := 4) rfl
            go_wp2_with fail
            refine (rRoll_any ⟨r1.pa, r1.pn, r1.pc, r1.wa, r1.wn, r1.wc, r1.ma, r1.mn, r1.mc, r1.sa, r1.sn, r1.sc, a3, r.nn + 1, c3⟩ { d with N := Pure.insN d.N r.nn x } ⟨by have := HE.out.1; have := hN.p; dsimp only; omega, by have := HE.out.2.1; have := hN.w; dsimp only; omega, by have := HE.out.2.2.1; have := hN.m; dsimp only; omega, by have := HE.out.2.2.2.1; have := hN.s; dsimp only; omega, by have := HFF.out; dsimp only; omega⟩ HPR.out.1 _ HOZ.out.at).mono ?_
            rintro e w9 ⟨rfl, hb⟩
            rw [hrv]
            have HF9 := Lib.hid (heap_lft HF8.out hb)
            have HO9 := Lib.hid (HOZ.out.below hb)
            have HB9 := Lib.hid (below_thn HBZ.out hb)
            have HZ8 := HZ9
            have HZ9 := Lib.hid (heap_lft HZ8.out hb)
            clear hb hrv s0 s1 s2 s3 s4 HF8 HOZ HBZ HZ8
            cases rv
            · have HC9 : Hid (c = 91) := Lib.hid (by
                rw [← HC.out]
                unfold Pure.putE
                rw [if_pos HPR.out.2.2, if_neg (by rw [HPR.out.2.1, HRV.out]; decide)])
              have z0 := heap_cell HZ9.out (j := 0) rfl
              have fz0 := heap_frozen HZ9.out 0
              have z1 := heap_cell HZ9.out (j := 1) rfl
              have fz1 := heap_frozen HZ9.out 1
              have z2 := heap_cell HZ9.out (j := 2) rfl
              have fz2 := heap_frozen HZ9.out 2
              have z3 := heap_cell HZ9.out (j := 3) rfl
              have fz3 := heap_frozen HZ9.out 3
              have z4 := heap_cell HZ9.out (j := 4) rfl
              have fz4 := heap_frozen HZ9.out 4
              go_wp2_with fail
              refine bodyPost_ret (v := .tuple #[rollV nilRoll, .int .i64 91]) (by simp [results, Tryz.results7, go_sem, z0, z1, z2, z3, z4, nilRoll]; try rfl) rfl ⟨nilRoll, by rw [HC9.out], by rw [HC9.out]; exact nil_out _ _ _ _ _ _ _ _, ?_⟩
              repeat (first | with_reducible exact HB9.out | with_reducible refine Below.setCell ?_ (by dsimp only; omega) _)
            · have HC9 : Hid (c = 0) := Lib.hid (by
                rw [← HC.out]
                unfold Pure.putE
                rw [if_pos HPR.out.2.2, if_pos (by rw [HPR.out.2.1, HRV.out]; rfl)])
              have HSK := HS3
              have s0 := heap_cell HF9.out (j := 0) rfl
              have s1 := heap_cell HF9.out (j := 1) rfl
              have s2 := heap_cell HF9.out (j := 2) rfl
              have s3 := heap_cell HF9.out (j := 3) rfl
              have s4 := heap_cell HF9.out (j := 4) rfl
              have z0 := heap_cell HZ9.out (j := 0) rfl
              have fz0 := heap_frozen HZ9.out 0
              have z1 := heap_cell HZ9.out (j := 1) rfl
              have fz1 := heap_frozen HZ9.out 1
              have z2 := heap_cell HZ9.out (j := 2) rfl
              have fz2 := heap_frozen HZ9.out 2
              have z3 := heap_cell HZ9.out (j := 3) rfl
              have fz3 := heap_frozen HZ9.out 3
              have z4 := heap_cell HZ9.out (j := 4) rfl
              have fz4 := heap_frozen HZ9.out 4
              go_wp2_with fail
              refine bodyPost_ret (v := .tuple #[rollV ⟨r1.pa, r1.pn, r1.pc, r1.wa, r1.wn, r1.wc, r1.ma, r1.mn, r1.mc, r1.sa, r1.sn, r1.sc, a3, r.nn + 1, c3⟩, .int .i64 0]) (by simp [results, Tryz.results7, go_sem, z0, z1, z2, z3, z4]; try rfl) rfl ⟨⟨r1.pa, r1.pn, r1.pc, r1.wa, r1.wn, r1.wc, r1.ma, r1.mn, r1.mc, r1.sa, r1.sn, r1.sc, a3, r.nn + 1, c3⟩, by rw [HC9.out], ?_, ?_⟩
              · rw [HC9.out]
                have e9 : ({ d with N := Pure.insN d.N r.nn x } : RollD) = Pure.insD r d x := by unfold Pure.insD; rw [HPOS.out]
                refine ⟨?_, HE.out.1, HE.out.2.1, HE.out.2.2.1, HE.out.2.2.2.1, rfl⟩
                have h2 := HSK.out
                rw [← e9]
                refine OwnRoll.base (base := w8.heap.size) ?_ (by omega)
                repeat (first | with_reducible exact HO9.out | with_reducible refine OwnRoll.set ?_ (by dsimp only; omega) _)
              · repeat (first | with_reducible exact HB9.out | with_reducible refine Below.setCell ?_ (by dsimp only; omega) _)
  · have e1 : (ce != 0) = true := by simpa using h0
    have HC0 := Lib.hid h0
    clear h0
    have HC9 : Hid (c = ce) := Lib.hid (by
      rw [← HC.out]
      unfold Pure.putE
      unfold Pure.putC
      rw [if_neg (by rw [if_neg (by rw [HCE.out]; exact HC0.out), HCE.out]; exact HC0.out), if_neg (by rw [HCE.out]; exact HC0.out)]
      exact HCE.out)
    have HZ9 := HZ1
    have z0 := heap_cell HZ9.out (j := 0) rfl
    have fz0 := heap_frozen HZ9.out 0
    have z1 := heap_cell HZ9.out (j := 1) rfl
    have fz1 := heap_frozen HZ9.out 1
    have z2 := heap_cell HZ9.out (j := 2) rfl
    have fz2 := heap_frozen HZ9.out 2
    have z3 := heap_cell HZ9.out (j := 3) rfl
    have fz3 := heap_frozen HZ9.out 3
    have z4 := heap_cell HZ9.out (j := 4) rfl
    have fz4 := heap_frozen HZ9.out 4
    go_wp2_with fail
    refine bodyPost_ret (v := .tuple #[rollV nilRoll, .int .i64 ce]) (by simp [results, Tryz.results7, go_sem, z0, z1, z2, z3, z4, nilRoll]; try rfl) rfl ⟨nilRoll, by rw [HC9.out], by rw [HC9.out, decide_eq_false HC0.out]; exact nil_out _ _ _ _ _ _ _ _, ?_⟩
    repeat (first | with_reducible exact HB1.out | with_reducible refine Below.setCell ?_ (by dsimp only; omega) _)

end Go.Proofs.YtijfdfplebbaaaaGreat
