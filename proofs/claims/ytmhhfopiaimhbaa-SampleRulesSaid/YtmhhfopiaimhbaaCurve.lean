/-
  The contract of Curve.
-/
import Derived.Test.YtmhhfopiaimhbaaCurveMath
import Derived.Test.YtmhhfopiaimhbaaHeldIn
import Derived.Test.YtmhhfopiaimhbaaOffTop
import Derived.Test.YtmhhfopiaimhbaaRule
import Derived.Test.YtmhhfopiaimhbaaLoop
import Derived.Maps.OwnIn
import Derived.Deep.AppendLies
import Derived.Test.YtmhhfopiaimhbaaLikely
namespace Go.Proofs.Ytmhhfopiaimhbaa
open Go.RowKit Go.Shelf
attribute [local go_sem] Oper.semAt_some

theorem acceptsE {f M : Nat} {args : Array Value} {w : World} {n d : Int} {u : Value} (hv : partV n d = u) (h : Calls Try.prog f args w fun e w' => e = .returned (partV n d) ∧ Step M w w') : Calls Try.prog f args w fun e w' => e = .returned u ∧ Step M w w' := by
  subst hv
  exact h

set_option maxHeartbeats 4000000 in
set_option maxRecDepth 100000 in
theorem curve_in (b lo hi x y : Int) (w : World) :
    CallsIn Fence.wide 5 Try.prog 6 #[cargoV b lo hi, .agg #[.int .i64 x, .int .i64 y]] w (CurveOut (Pure.curveE b lo hi x y) (hi - lo + 1).toNat (Pure.curveN b lo x y) (Pure.curveD b lo x y) w) := by
  obtain ⟨k1, h1⟩ : ∃ z, Pure.okCargo b lo hi = z := ⟨_, rfl⟩
  obtain ⟨k2, h2⟩ : ∃ z, Pure.okDraw b x y = z := ⟨_, rfl⟩
  have HE : Hid (Pure.curveE b lo hi x y = if k1 then (if k2 then 0 else 13) else 10) := Lib.hid (by unfold Pure.curveE; rw [h1, h2])
  have HF : Hid (Pure.first2 (Pure.err k1 10) (Pure.err k2 13) = if k1 then (if k2 then 0 else 13) else 10) := Lib.hid (by cases k1 <;> cases k2 <;> rfl)
  have H1 := Lib.hid h1
  have H2 := Lib.hid h2
  clear h1 h2
  refine callsIn_of_wp_marks Try.func6 rfl trivial ?_ rfl
  simp only [Try.ntmps6, List.size_toArray, List.length_cons, List.length_nil, Nat.reduceAdd, Nat.reduceSub, Array.replicate_succ, Array.replicate_zero, List.push_toArray, List.append_toArray, List.nil_append, List.cons_append]
  refine wpIn_wide.2 ?_
  go_upto_region 1 with fail
  obtain ⟨W1, hW1⟩ : ∃ v, (w.alloc (.cells #[.int .i64 b, .int .i64 lo, .int .i64 hi] 25)).alloc (.cells #[.int .i64 x, .int .i64 y] 27) = v := ⟨_, rfl⟩
  have HA : Hid (W1.heap[w.heap.size]? = some (.cells #[.int .i64 b, .int .i64 lo, .int .i64 hi] 25) ∧ W1.heap[w.heap.size + 1]? = some (.cells #[.int .i64 x, .int .i64 y] 27)) := by rw [← hW1]; exact Lib.hid ⟨heap_up (heap_top w _ rfl) _, heap_top _ _ (by simp)⟩
  have HB : Hid (Below w.heap.size w W1) := by rw [← hW1]; exact Lib.hid (((Below.refl _ _).alloc (Nat.le_refl _) _).alloc (by simp; try omega) _)
  rw [hW1]
  clear hW1
  have HK : Hid (∀ v : World, Below W1.heap.size W1 v → (v.cell? ⟨w.heap.size, 0, none⟩ = some (.int .i64 b) ∧ v.cell? ⟨w.heap.size, 1, none⟩ = some (.int .i64 lo) ∧ v.cell? ⟨w.heap.size, 2, none⟩ = some (.int .i64 hi) ∧ v.cell? ⟨(w.heap.size + 1), 0, none⟩ = some (.int .i64 x) ∧ v.cell? ⟨(w.heap.size + 1), 1, none⟩ = some (.int .i64 y) ∧ Below W1.heap.size W1 v)) :=
    Lib.hid (fun v k => ⟨below_cell k (heap_cell HA.out.1 (j := 0) rfl), below_cell k (heap_cell HA.out.1 (j := 1) rfl), below_cell k (heap_cell HA.out.1 (j := 2) rfl), below_cell k (heap_cell HA.out.2 (j := 0) rfl), below_cell k (heap_cell HA.out.2 (j := 1) rfl), k⟩)
  go_cut [6] from 10 to 16 (fun s wx => s = .int .i64 (Pure.first2 (Pure.err k1 10) (Pure.err k2 13)) ∧ Below W1.heap.size W1 wx)
  case first =>
    as_aux_lemma =>
      go_region_held3 (fun v => v.cell? ⟨w.heap.size, 0, none⟩ = some (.int .i64 b) ∧ v.cell? ⟨w.heap.size, 1, none⟩ = some (.int .i64 lo) ∧ v.cell? ⟨w.heap.size, 2, none⟩ = some (.int .i64 hi) ∧ v.cell? ⟨(w.heap.size + 1), 0, none⟩ = some (.int .i64 x) ∧ v.cell? ⟨(w.heap.size + 1), 1, none⟩ = some (.int .i64 y) ∧ Below W1.heap.size W1 v)
        (first | exact HK.out _ (Below.refl _ _).drew | with_reducible exact HK.out _ hq3 | with_reducible exact HK.out _ hq2 | with_reducible exact HK.out _ hq1 | with_reducible exact HK.out _ (Below.alloc hq2 (Below.size hq2) _) | with_reducible exact HK.out _ (Below.alloc hq1 (Below.size hq1) _))
        (first
          | (go_at_call 16; with_reducible refine (check_any _ _ _ _).mono ?_; rw [H1.out]; rintro e u1 ⟨rfl, hb1⟩; have hq1 : Below W1.heap.size W1 u1 := below_thn (And.right (And.right (And.right (And.right (And.right (by assumption)))))) hb1)
          | (go_at_call 17; with_reducible refine (checkRule_any _ _ _ _ _ _).mono ?_; rw [H2.out]; rintro e u2 ⟨rfl, hb2⟩; have hq2 : Below W1.heap.size W1 u2 := below_thn (And.right (And.right (And.right (And.right (And.right (by assumption)))))) hb2)
          | (go_at_call 15; with_reducible refine (firstError2 (Pure.err k1 10) (Pure.err k2 13) _ _ _ (cells_top _ _ _ rfl 0) (cells_top _ _ _ rfl 1)).mono ?_; rintro e u3 ⟨rfl, hb3⟩; have hq3 : Below W1.heap.size W1 u3 := below_thn (And.right (And.right (And.right (And.right (And.right (by assumption)))))) hb3))
      all_goals
        go_wp2_with fail
        go_meet
        exact ⟨rfl, hq3⟩
  case rest =>
    obtain ⟨w1, rfl⟩ : ∃ x, x = wc := ⟨_, rfl⟩
    obtain ⟨rfl, hb⟩ := hcut
    have HA1 : Hid (w1.heap[w.heap.size]? = some (.cells #[.int .i64 b, .int .i64 lo, .int .i64 hi] 25) ∧ w1.heap[w.heap.size + 1]? = some (.cells #[.int .i64 x, .int .i64 y] 27)) := Lib.hid ⟨heap_lft HA.out.1 hb, heap_lft HA.out.2 hb⟩
    have HB1 := Lib.hid (below_thn HB.out hb)
    clear hb HK
    rw [HF.out]
    cases k1
    · go_wp2_with fail
      refine ⟨.tuple #[.slice none 0 0, .int .i64 10], ?_, none, 0, 0, by rw [HE.out]; rfl, by rw [HE.out]; rfl, fun j hj => absurd hj (Nat.not_lt_zero j), HB1.out⟩
      simp [results, Try.f6, go_sem]
    · cases k2
      · go_wp2_with fail
        refine ⟨.tuple #[.slice none 0 0, .int .i64 13], ?_, none, 0, 0, by rw [HE.out]; rfl, by rw [HE.out]; rfl, fun j hj => absurd hj (Nat.not_lt_zero j), HB1.out⟩
        simp [results, Try.f6, go_sem]
      · have m1 := H1.out
        have m2 := H2.out
        unfold Pure.okCargo at m1
        unfold Pure.okDraw at m2
        simp only [decide_eq_true_eq] at m1 m2
        obtain ⟨b1, b2, l0, l1, hb⟩ := m1
        obtain ⟨x0, x1, y0, y1⟩ := m2
        replace HE : Hid (Pure.curveE b lo hi x y = 0) := Lib.hid (by rw [HE.out]; rfl)
        have e0 := heap_cell HA1.out.1 (j := 0) rfl
        have e1 := heap_cell HA1.out.1 (j := 1) rfl
        have e2 := heap_cell HA1.out.1 (j := 2) rfl
        have g0 := heap_cell HA1.out.2 (j := 0) rfl
        have g1 := heap_cell HA1.out.2 (j := 1) rfl
        go_wp2_with fail
        refine (work_any b lo hi _).mono ?_
        rintro e w2 ⟨M, T, C, rfl, hM, hcnt, hb2⟩
        obtain ⟨bn, rfl⟩ : ∃ bn : Nat, b = bn := ⟨b.toNat, by omega⟩
        clear e0 e1 e2 g0 g1
        go_wp2_with fail
        have hs3 : Step M w2 ((w2.alloc (.cells #[.int .i64 bn, .int .i64 lo, .int .i64 hi, setsV T C] 62)).alloc (.cells #[.slice none 0 0] 37)) := ((Step.refl hcnt.memo).alloc _).alloc _
        have hlx := hcnt.lt
        obtain ⟨N0, hN0⟩ : ∃ n, w2.heap.size = n := ⟨_, rfl⟩
        have hsz3 : ((w2.alloc (.cells #[.int .i64 bn, .int .i64 lo, .int .i64 hi, setsV T C] 62)).alloc (.cells #[.slice none 0 0] 37)).heap.size = N0 + 1 + 1 := by rw [← hN0]; simp
        refine (numbers_any bn lo hi 0 0 T C _).mono ?_
        rintro e w' ⟨rfl, rfl⟩
        rw [hsz3]
        obtain ⟨W4, hW4⟩ : ∃ v, ((((w2.alloc (.cells #[.int .i64 bn, .int .i64 lo, .int .i64 hi, setsV T C] 62)).alloc (.cells #[.slice none 0 0] 37)).alloc (.cells #[.int .i64 bn, .int .i64 lo, .int .i64 hi, setsV T C] 62)).alloc (.cells #[.int .i64 0, .int .i64 0] 74)) = v := ⟨_, rfl⟩
        have hhold : W4.heap[N0]? = some (.cells #[.int .i64 bn, .int .i64 lo, .int .i64 hi, setsV T C] 62) := by rw [← hW4, ← hN0]; exact heap_up (heap_up (heap_up (heap_top _ _ rfl) _) _) _
        have hsl : W4.heap[N0 + 1]? = some (.cells #[.slice none 0 0] 37) := by rw [← hW4, ← hN0]; exact heap_up (heap_up (heap_top _ _ (by simp)) _) _
        have hh4 : W4.heap[N0 + 1 + 1]? = some (.cells #[.int .i64 bn, .int .i64 lo, .int .i64 hi, setsV T C] 62) := by rw [← hW4, ← hN0]; exact heap_up (heap_top _ _ (by simp)) _
        have hd4 : W4.heap[N0 + 1 + 1 + 1]? = some (.cells #[.int .i64 0, .int .i64 0] 74) := by rw [← hW4, ← hN0]; exact heap_top _ _ (by simp)
        have hs4 : Step M w2 W4 := by rw [← hW4]; exact ((((Step.refl hcnt.memo).alloc _).alloc _).alloc _).alloc _
        have hsz4 : W4.heap.size = N0 + 4 := by rw [← hW4, ← hN0]; simp
        rw [hW4]
        clear hW4 hs3 hsz3
        go_wp2_with fail
        have hrl2 := heap_lft HA1.out.2 hb2
        have hwn : w.heap.size + 1 < N0 := by rw [← hN0]; exact (Array.getElem?_eq_some_iff.1 hrl2).1
        have hMr : w.heap.size + 1 ≠ M := by have := (Array.getElem?_eq_some_iff.1 HA1.out.2).1; omega
        have hlx1 : M < N0 := by rw [← hN0]; exact hlx.1
        have hrl4 := hs4.heap hrl2 hMr
        have HLX := Lib.hid hlx
        have HN0 := Lib.hid hN0
        have HB2 := Lib.hid (below_thn HB1.out hb2)
        have HCNT := Lib.hid hcnt
        have HSZ4 := Lib.hid hsz4
        obtain ⟨Nn, hNn⟩ : ∃ f : Int → Int, (fun n => Pure.few bn n x y / Pure.gcd (Pure.few bn n x y) (Pure.sets bn x)) = f := ⟨_, rfl⟩
        obtain ⟨Dd, hDd⟩ : ∃ f : Int → Int, (fun n => Pure.sets bn x / Pure.gcd (Pure.few bn n x y) (Pure.sets bn x)) = f := ⟨_, rfl⟩
        have HND : Hid (∀ n, partV (Pure.few bn n x y) (Pure.sets bn x) = .agg #[.int .i64 (Nn n), .int .i64 (Dd n)]) := Lib.hid (fun n => by rw [← hNn, ← hDd])
        have HCN : Hid (Pure.curveN bn lo x y = (fun j : Nat => Nn (lo + (j : Int))) ∧ Pure.curveD bn lo x y = (fun j : Nat => Dd (lo + (j : Int)))) := Lib.hid (by rw [← hNn, ← hDd]; exact ⟨rfl, rfl⟩)
        clear hNn hDd
        refine (wpIn_wide (n := 5)).1 ?_
        refine wpIn_over_numbers 1 (b := bn) (M := M) (T := T) (C := C) (lo := lo) (hi := hi) (o := 0) (f := 0) (by omega) (Int.le_refl 0) (by decide) (Int.le_refl 0) (by decide) (hcnt.step hs4) hh4 hd4 rfl rfl
          (fun pre V => ∃ v, V.heap[N0 + 1]? = some (.cells #[v] 37) ∧ V.ownsRow W4.heap.size 31 2 v pre.length (cellsOf Nn Dd pre) ∧ V.heap[N0]? = some (.cells #[.int .i64 bn, .int .i64 lo, .int .i64 hi, setsV T C] 62) ∧ V.heap[w.heap.size + 1]? = some (.cells #[.int .i64 x, .int .i64 y] 27) ∧ Step M w2 V)
          (fun s A D row hs hg hr => by
            obtain ⟨v, g1, g2, g3, g4, g6⟩ := hs
            have hn : ∀ k, k < W4.heap.size → some k ≠ row := fun k hk e => by have := (hr k e.symm).1; omega
            exact ⟨v, (hg.block _ (Array.getElem?_eq_some_iff.1 g1).1 (hn _ (by omega))).trans g1, row_own (β := Unit) () A D row g2 hg hr, (hg.block _ (Array.getElem?_eq_some_iff.1 g3).1 (hn _ (by omega))).trans g3,
              (hg.block _ (Array.getElem?_eq_some_iff.1 g4).1 (hn _ (by omega))).trans g4, step_own (β := Unit) (by omega) HLX.out.1 () A D row g6 hg hr⟩)
          (fun s A B hc hs hst => by
            obtain ⟨v, g1, g2, g3, g4, g6⟩ := hs
            exact ⟨v, hst.heap g1 (by omega), hst.row hc.memo g2, hst.heap g3 (by omega), hst.heap g4 hMr, g6.trans hst⟩)
          ⟨_, hsl, World.ownsRow_nil _ _ _ _, hhold, hrl4, hs4⟩
          (fun z a' => a' = { tmps := #[cargoV bn lo hi, .agg #[.int .i64 x, .int .i64 y], .pointer (some ⟨w.heap.size, 0, none⟩), .pointer (some ⟨w.heap.size + 1, 0, none⟩), .slice none 0 0, .int .i64 0, .int .i64 0, .pointer (some ⟨N0, 0, none⟩), .pointer (some ⟨N0 + 1, 0, none⟩), .int .i64 z, u10, u11, u12, u13, u14, u15, u16, .int .i64 0, .bool false, undef, .agg #[.int .i64 bn, .int .i64 lo, .int .i64 hi], holdV bn lo hi T C, .agg #[.int .i64 bn, .int .i64 lo, .int .i64 hi, setsV T C], .agg #[.int .i64 0, .int .i64 0], .func (.func 48) #[] #[.pointer (some ⟨N0 + 1 + 1, 0, none⟩), .pointer (some ⟨N0 + 1 + 1 + 1, 0, none⟩)], .int .i64 z, undef, undef, undef, undef, undef, undef, undef, undef], defers := [] })
          ?assign ?body ?done
        case assign =>
          intro l z W K hK
          gi_wp2
          rfl
        case body =>
          rintro l pre z a' V hl hpx rfl hc hbh hbd ⟨v, hv, hown, hh, hrl, hst⟩
          gi_wp2_with fail
          refine wpIn_region_held (fun u => u.heap[N0 + 1]? = some (.cells #[v] 37) ∧ u.heap[N0]? = some (.cells #[.int .i64 bn, .int .i64 lo, .int .i64 hi, setsV T C] 62) ∧ u.heap[w.heap.size + 1]? = some (.cells #[.int .i64 x, .int .i64 y] 27)) 7 (by kernel_rfl) ?_
          refine heldIn_take (i := 0) (v := v) (by kernel_rfl) rfl (by kernel_rfl) (by kernel_rfl) (by kernel_rfl) (by kernel_rfl) (by kernel_rfl) (fun _ _ _ h => h) ⟨hv, hh, hrl⟩ (Or.inl ⟨by rfl, ?ld0⟩) ?rest0
          case ld0 =>
            intro u hu
            have c0 := heap_cell hu.1 (j := 0) rfl
            clear hu
            go_simp
          refine heldIn_take (i := 1) (v := holdV bn lo hi T C) (by kernel_rfl) rfl (by kernel_rfl) (by kernel_rfl) (by kernel_rfl) (by kernel_rfl) (by kernel_rfl) (fun _ _ _ h => h) ⟨hv, hh, hrl⟩ (Or.inl ⟨by rfl, ?ld1⟩) ?rest1
          case ld1 =>
            intro u hu
            have c0 := heap_cell hu.2.1 (j := 0) rfl
            have c1 := heap_cell hu.2.1 (j := 1) rfl
            have c2 := heap_cell hu.2.1 (j := 2) rfl
            have c3 := heap_cell hu.2.1 (j := 3) rfl
            clear hu
            go_simp
          refine heldIn_take (i := 2) (v := .agg #[.int .i64 x, .int .i64 y]) (by kernel_rfl) rfl (by kernel_rfl) (by kernel_rfl) (by kernel_rfl) (by kernel_rfl) (by kernel_rfl) (fun _ _ _ h => h) ⟨hv, hh, hrl⟩ (Or.inl ⟨by rfl, ?ld2⟩) ?rest2
          case ld2 =>
            intro u hu
            have c0 := heap_cell hu.2.2 (j := 0) rfl
            have c1 := heap_cell hu.2.2 (j := 1) rfl
            clear hu
            go_simp
          refine heldIn_take (i := 3) (v := .int .i64 z) (by kernel_rfl) rfl (by kernel_rfl) (by kernel_rfl) (by kernel_rfl) (by kernel_rfl) (by kernel_rfl) (fun _ _ _ h => h) ⟨hv, hh, hrl⟩ (Or.inl ⟨by rfl, ?ld3⟩) ?rest3
          case ld3 =>
            intro u hu
            go_simp
          refine heldIn_step (i := 4) rfl (by kernel_rfl) (fun K hK => ?_)
          go_simp
          have hzm := Pure.mem_nums.1 (Pure.prefix_mem hpx)
          have hz0 := hzm.1.1
          have hz1 := hzm.1.2
          have HLEN : Hid (pre.length ≤ 37) := Lib.hid (by
            have h2 := Pure.prefix_length hpx
            have h3 := Pure.nums_length bn lo hi 0 0
            simp at h2
            omega)
          have HCALL := Lib.hid (acceptsE (HND.out z) (accepts_any (M := M) (T := T) (C := C) bn lo hi z x y (by omega) (by omega) (by omega) (by omega) (by omega) (by omega) (by omega) V.drew (hc.step (Step.refl hc.memo).drew)))
          refine ⟨trivial, ?_⟩
          refine (CallsIn.inRound l (callsIn_wide.2 HCALL.out)).mono ?_
          rintro e V2 ⟨rfl, hs2d⟩
          have hs2 : Step M V V2 := (Step.refl hc.memo).drew.trans hs2d
          have hv2 := hs2.heap hv (by omega)
          have hh2 := hs2.heap hh (by omega)
          have hr2 := hs2.heap hrl hMr
          have hown2 := hs2.row hc.memo hown
          have hst2 := hst.trans hs2
          have hc2 := hc.step hs2
          have hn2 : N0 + 3 < V2.heap.size := by
            have := (Array.getElem?_eq_some_iff.1 (hs2.heap hbd (by omega))).1
            omega
          refine hK _ _ (fun _ => ⟨hv2, hh2, hr2⟩) ?_
          clear hK K
          refine heldIn_step (i := 5) rfl (by kernel_rfl) (fun K hK => ?_)
          go_simp
          obtain ⟨i0, hi0, hz0', hz1', hz2'⟩ := info_parts infoPart
          have hva := heap_up hv2 (.cells #[.int .i64 (Nn z), .int .i64 (Dd z)] 31)
          refine hK _ _ (fun _ => ⟨hva, heap_up hh2 _, heap_up hr2 _⟩) ?_
          clear hK K
          refine heldIn_step (i := 6) rfl (by kernel_rfl) (fun K hK => ?_)
          refine stepIn_append rfl _ _ 37 rfl W4.heap.size 31 i0 (.agg #[.int .i64 0, .int .i64 0]) 2 16 Try.underlying37 hi0 hz0' hz1' hz2' rfl (by decide) v _ _ rfl (hown2.alloc _) ⟨V2.heap.size, 0, none⟩ 1 1 [.int .i64 (Nn z), .int .i64 (Dd z)] rfl rfl (cell_two _ _ _ _ rfl) (by simp [Value.oneCell']) (by have := HLEN.out; unfold maxLen; omega) (by have := HLEN.out; omega) (by simp; omega) ?_
          intro v' w5 hown5 hgrow
          obtain ⟨g5, cap5, hv5e, _, _⟩ := World.ownsRow.form hown5 (Nat.succ_pos _)
          subst hv5e
          have keep5 : ∀ k o, k < W4.heap.size → V2.heap[k]? = some o → w5.heap[k]? = some o := fun k o hk ho => (hgrow.block k (Array.getElem?_eq_some_iff.1 (heap_up ho _)).1 (row_ne hown2 hk)).trans (heap_up ho _)
          have hv5 := keep5 _ _ (by omega) hv2
          refine hK _ _ (fun _ => ⟨hv5, keep5 _ _ (by omega) hh2, keep5 _ _ (by omega) hr2⟩) ?_
          clear hK K
          have c5 := heap_cell hv5 (j := 0) rfl
          have f5 := heap_frozen hv5 0
          have HGROW := Lib.hid hgrow
          have HOWN5 := Lib.hid hown5
          have HV2 := Lib.hid hv2
          have HH2 := Lib.hid hh2
          have HR2 := Lib.hid hr2
          have HOWN2 := Lib.hid hown2
          have HST2 := Lib.hid hst2
          have HC2 := Lib.hid hc2
          have HS2 := Lib.hid hs2
          have HBH := Lib.hid hbh
          have HBD := Lib.hid hbd
          clear hgrow hown5 hv2 hh2 hr2 hown2 hst2 hc2 hs2 hs2d hva hv5 keep5 hv hh hrl hown hst hc hbh hbd
          refine heldIn_step (i := 7) rfl (by kernel_rfl) (fun K hK => ?_)
          go_simp
          refine hK _ _ (fun h => absurd rfl h) ?_
          clear hK K
          refine heldIn_done (by kernel_rfl) ?_ _
          have zM := HLX.out
          obtain ⟨p1, p2, p3, p4, p5, p6⟩ := push_close (N := W4.heap.size + 2) (T' := 37) HC2.out HST2.out HV2.out HOWN2.out HGROW.out HOWN5.out (by omega) (by omega) (by omega) (by omega) (by omega) (by omega) (Bh := N0 + 1 + 1) (Bd := N0 + 1 + 1 + 1) (by omega) (by omega) (by omega) (by omega) (by omega) (by omega) (by omega) (by omega) (by decide)
          have k1 := HS2.out.keeps (B := W4.heap.size) (by omega)
          have k2 : KeepNum (W4.heap.size + 2) M T C (N0 + 1 + 1) (N0 + 1 + 1 + 1) V V2 := KeepNum.step HS2.out (by omega) (by omega) (by omega) (Array.getElem?_eq_some_iff.1 HBH.out).1 (Array.getElem?_eq_some_iff.1 HBD.out).1
          gi_wp2_with fail
          refine ⟨k1.trans (p1 _), k2.trans p2, _, p3, ?_, p5 _ _ (by omega) (by omega) HH2.out, p5 _ _ (by omega) (by omega) HR2.out, p6⟩
          rw [cellsOf_snoc, List.length_append]
          exact p4
        case done =>
          rintro D V hD hc ⟨v, hv, hown, hh, hrl, hst⟩ hK
          rw [Pure.nums_all l0 l1 hb] at hown
          rw [cellsOf_range, List.length_map, List.length_range] at hown
          have c0 := heap_cell hv (j := 0) rfl
          have HOWN := Lib.hid hown
          have HST := Lib.hid hst
          have HK := Lib.hid hK
          clear hv hown hh hrl hst hK hc
          gi_wp2
          go_wp2_with fail
          refine ⟨by simp, .inl ⟨_, _, rfl, run_takeDeferred HK.out, ?_⟩⟩
          have hown9 := row_own (β := Unit) (B := 0) () V _ (some D) HOWN.out (grownBy_putObj' V D (.deferred none)) (fun r e => by cases e; exact ⟨Nat.zero_le _, _, HK.out, rfl⟩)
          have hst9 := HST.out.put (by omega) HLX.out.1 HK.out (.deferred none) rfl
          obtain ⟨a, cap, rfl, hta⟩ := parts_of_row hown9 (by omega)
          refine ⟨.tuple #[.slice a (hi - lo + 1).toNat cap, .int .i64 0], ?_, a, _, cap, by rw [HE.out], by rw [HE.out]; rfl, by rw [HCN.out.1, HCN.out.2]; exact hta, ?_⟩
          · simp [results, Try.f6, go_sem]
          · exact below_step HB2.out hst9 HB2.out.size (by have := HB1.out.size; omega)

theorem curve_top (b lo hi x y : Int) (w : World) :
    Calls Try.prog 6 #[cargoV b lo hi, .agg #[.int .i64 x, .int .i64 y]] w (CurveOut (Pure.curveE b lo hi x y) (hi - lo + 1).toNat (Pure.curveN b lo x y) (Pure.curveD b lo x y) w) :=
  callsIn_wide.1 (curve_in b lo hi x y w)

end Go.Proofs.Ytmhhfopiaimhbaa
