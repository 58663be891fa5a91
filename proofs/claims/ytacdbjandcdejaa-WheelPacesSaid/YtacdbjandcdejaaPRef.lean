/-
  The contracts of the specification's own within, Day, All, Plan and Great.
-/
import Derived.Test.YtacdbjandcdejaaPCheck
namespace Go.Proofs.Ytacdbjandcdejaa
open Go.RowKit

namespace Pure
/-- A plan that is valid. -/
structure OkPlan (p : PlanX) (T A S : Nat → Int) : Prop where
  n : 1 ≤ (p.tn : Int) ∧ (p.tn : Int) ≤ 12
  f : 0 ≤ p.fr ∧ p.fr ≤ 3652 - p.tn + 1
  t : ∀ j, j < p.tn → 0 ≤ T j ∧ T j ≤ 4
  all : sumTo T p.tn ≤ 24
  sd : 0 ≤ p.sd ∧ p.sd ≤ 30
  ck : 0 ≤ p.ck ∧ p.ck ≤ 30
  bu : 0 ≤ p.bu ∧ p.bu ≤ 4
  an : (p.an : Int) ≤ 6
  a : ∀ j, j < p.an → wrongA p (A (j * 2)) (A (j * 2 + 1)) = false
  ao : ∀ j, j < p.an - 1 → A (j * 2) ≤ A ((j + 1) * 2)
  sn : (p.sn : Int) ≤ 8
  s : ∀ j, j < p.sn → wrongS p (S (j * 4)) (S (j * 4 + 1)) (S (j * 4 + 2)) (S (j * 4 + 3)) = false
  so : ∀ j, j < p.sn - 1 → S (j * 4) < S ((j + 1) * 4)
theorem plan_iff {p : PlanX} {T A S : Nat → Int} : plan p T A S = true ↔ OkPlan p T A S := by
  unfold plan days turns stock arrs sales inSpan inOrder
  simp only [Bool.and_eq_true, decide_eq_true_eq, Bool.not_eq_true', List.any_eq_false, List.mem_range, Bool.not_eq_true]
  constructor
  · rintro ⟨⟨⟨⟨⟨a1, a2⟩, a3, a4⟩, ⟨a5, a6⟩, a7⟩, ⟨a8, a9⟩, a10⟩, ⟨a11, a12⟩, a13⟩
    exact ⟨a1, a2, a3, a4, a5, a6, a7, a8, a9, a10, a11, a12, a13⟩
  · rintro ⟨a1, a2, a3, a4, a5, a6, a7, a8, a9, a10, a11, a12, a13⟩
    exact ⟨⟨⟨⟨⟨a1, a2⟩, a3, a4⟩, ⟨a5, a6⟩, a7⟩, ⟨a8, a9⟩, a10⟩, ⟨a11, a12⟩, a13⟩
theorem plan_no {p : PlanX} {T A S : Nat → Int} (h : ¬ OkPlan p T A S) : plan p T A S = false := by
  cases e : plan p T A S with
  | false => rfl
  | true => exact absurd (plan_iff.1 e) h
theorem plan_yes {p : PlanX} {T A S : Nat → Int} (h : OkPlan p T A S) : plan p T A S = true := plan_iff.2 h
end Pure

theorem rWithinE (n lo hi : Int) (r : Bool) (hr : decide (lo ≤ n ∧ n ≤ hi) = r) (w : World) : Calls Try.prog 54 #[.int .i64 n, .int .i64 lo, .int .i64 hi] w fun e w' => e = .returned (.bool r) ∧ w = w' := by
  subst hr
  go_enter Try.func54, Try.ntmps54
  by_cases h : lo ≤ n
  · go_wp2_with fail
    go_ret
    exact ⟨ret_bool (by simp [h]), rfl⟩
  · go_wp2_with fail
    go_ret
    exact ⟨ret_bool (by simp; omega), rfl⟩
theorem rDayE (p : PlanX) (day : Int) (r : Bool) (h0 : 0 ≤ p.fr) (h1 : p.fr ≤ 3652) (hn : p.tn ≤ 40) (hbig : day ≤ 9223372036854775807) (hr : Pure.isDay p day = r) (w : World) :
    Calls Try.prog 55 #[planV p, .int .i64 day] w fun e w' => e = .returned (.bool r) ∧ Below w.heap.size w w' := by
  subst hr
  unfold Pure.isDay
  obtain ⟨fr, ta, tn, tc, sd, ck, aa, an, ac, sa, sn, sc, bu⟩ := p
  simp only at h0 h1 hn ⊢
  go_enter Try.func55, Try.ntmps55
  by_cases h : fr ≤ day
  · go_wp2_with fail
    go_ret
    exact ⟨ret_bool (by rw [decide_eq_decide]; omega), below_new _ _⟩
  · go_wp2_with fail
    go_ret
    exact ⟨ret_bool (by simp; omega), below_new _ _⟩
set_option maxHeartbeats 1000000 in
set_option maxRecDepth 100000 in
theorem rAll_any (p : PlanX) (F : Nat → Int) (hl : p.tn ≤ 40) (hF : ∀ j, j < p.tn → 0 ≤ F j ∧ F j ≤ 4) (w : World) (h : NumsAt w p.ta p.tn F) :
    Calls Try.prog 56 #[planV p] w fun e w' => e = .returned (.int .i64 (Pure.sumTo F p.tn)) ∧ Below w.heap.size w w' := by
  obtain ⟨fr, ta, len, tc, sd, ck, aa, an, ac, sa, sn, sc, bu⟩ := p
  simp only at hl hF h ⊢
  have HN : Hid (NumsAt (w.alloc (planB ⟨fr, ta, len, tc, sd, ck, aa, an, ac, sa, sn, sc, bu⟩)) ta len F) := Lib.hid (h.alloc _)
  have HF := Lib.hid hF
  clear h hF
  go_enter Try.func56, Try.ntmps56
  go_wp2_with fail
  go_loop [3, 5, 9] (fun s _ i => ∃ k : Nat, k ≤ len ∧ i = .int .i64 k ∧ s = .int .i64 (Pure.sumTo F k)) (fun _ _ i => len - (intOf i).toNat)
  case atStart => exact ⟨0, Nat.zero_le _, rfl, rfl⟩
  case round =>
    obtain ⟨k, hk, rfl, rfl⟩ := hrel
    by_cases hk1 : k < len
    · obtain ⟨b, off, rfl, hc1⟩ := HN.out k hk1
      obtain ⟨f0, f1⟩ := HF.out k hk1
      obtain ⟨s0, s1⟩ := Pure.sumTo_span HF.out k hk
      go_wp2_with fail
      go_round
      case rel => exact ⟨k + 1, by omega, by go_num, by simp [Pure.sumTo]⟩
      case measure => simp [intOf]; omega
    · obtain rfl : k = len := by omega
      go_wp2_with fail
      go_ret
      exact ⟨rfl, below_new _ _⟩
theorem rGreat_any (p : PlanX) (w : World) : Calls Try.prog 4 #[planV p] w fun e w' => e = .returned (.bool (decide (30 < (p.tn : Int)) || decide (20 < (p.an : Int)) || decide (20 < (p.sn : Int)))) ∧ Below w.heap.size w w' := by
  obtain ⟨fr, ta, tn, tc, sd, ck, aa, an, ac, sa, sn, sc, bu⟩ := p
  simp only
  go_enter Try.func4, Try.ntmps4
  by_cases h1 : 30 < (tn : Int)
  · go_wp2_with fail
    go_ret
    exact ⟨ret_bool (by simp [h1]), below_new _ _⟩
  · by_cases h2 : 20 < (an : Int)
    · go_wp2_with fail
      go_ret
      exact ⟨ret_bool (by simp), below_new _ _⟩
    · go_wp2_with fail
      go_ret
      exact ⟨ret_bool (by rw [decide_eq_false (show ¬ 30 < (tn : Int) by omega), decide_eq_false (show ¬ 20 < (an : Int) by omega)]; simp), below_new _ _⟩

set_option maxHeartbeats 8000000 in
set_option maxRecDepth 100000 in
/-- **Plan**, the specification's. -/
theorem rPlan_any (p : PlanX) (T A S : Nat → Int) (hn : p.tn ≤ 40) (ha : p.an ≤ 40) (hs : p.sn ≤ 40) (hbA : ∀ j, j < p.an * 2 → A j ≤ 9223372036854775807) (hbS : ∀ j, j < p.sn * 4 → S j ≤ 9223372036854775807) (w : World) (h : PlanAt w p T A S) :
    Calls Try.prog 38 #[planV p] w fun e w' => e = .returned (.bool (Pure.plan p T A S)) ∧ Below w.heap.size w w' := by
  obtain ⟨W, hW⟩ : ∃ W, w.alloc (planB p) = W := ⟨_, rfl⟩
  have HB : Hid (Below w.heap.size w W) := Lib.hid (by rw [← hW]; exact below_new _ _)
  have HX : Hid (W.heap[w.heap.size]? = some (planB p)) := Lib.hid (by rw [← hW]; exact heap_top _ _ rfl)
  have HP : Hid (PlanAt W p T A S) := Lib.hid (h.below HB.out)
  clear h
  have HBA := Lib.hid hbA
  have HBG := Lib.hid hbS
  clear hbA hbS
  have HBS := Lib.hid (show w.heap.size < W.heap.size by rw [← hW]; simp)
  go_enter Try.func38, Try.ntmps38
  go_upto_region 1 with fail
  try rw [hW]
  clear hW
  have k0 := heap_cell HX.out (j := 0) rfl
  have k1 := heap_cell HX.out (j := 1) rfl
  have k2 := heap_cell HX.out (j := 2) rfl
  have k3 := heap_cell HX.out (j := 3) rfl
  have k4 := heap_cell HX.out (j := 4) rfl
  have k5 := heap_cell HX.out (j := 5) rfl
  have k6 := heap_cell HX.out (j := 6) rfl
  obtain ⟨r1, hr1⟩ : ∃ r, decide ((1 : Int) ≤ (p.tn : Int) ∧ (p.tn : Int) ≤ 12) = r := ⟨_, rfl⟩
  have HR1 := Lib.hid hr1
  clear hr1
  go_wp2_with fail
  refine (rWithinE (p.tn : Int) 1 12 r1 HR1.out _).mono ?_
  rintro e w' ⟨rfl, rfl⟩
  cases r1
  · go_wp2_with fail
    go_ret
    exact ⟨ret_bool (Pure.plan_no fun g => absurd g.n (of_decide_eq_false HR1.out)).symm, HB.out⟩
  · have E1 := of_decide_eq_true HR1.out
    obtain ⟨r2, hr2⟩ : ∃ r, decide ((0 : Int) ≤ p.fr ∧ p.fr ≤ 3652) = r := ⟨_, rfl⟩
    have HR2 := Lib.hid hr2
    clear hr2
    go_wp2_with fail
    refine (rWithinE p.fr 0 3652 r2 HR2.out _).mono ?_
    rintro e w' ⟨rfl, rfl⟩
    cases r2
    · go_wp2_with fail
      go_ret
      exact ⟨ret_bool (Pure.plan_no fun g => absurd (show 0 ≤ p.fr ∧ p.fr ≤ 3652 by have := g.f; have := g.n; omega) (of_decide_eq_false HR2.out)).symm, HB.out⟩
    · have E2 := of_decide_eq_true HR2.out
      by_cases h3 : 3652 < p.fr + p.tn - 1
      · go_wp2_with fail
        go_ret
        exact ⟨ret_bool (Pure.plan_no fun g => by have := g.f; omega).symm, HB.out⟩
      · obtain ⟨r4, hr4⟩ : ∃ r, decide ((0 : Int) ≤ p.sd ∧ p.sd ≤ 30) = r := ⟨_, rfl⟩
        have HR4 := Lib.hid hr4
        clear hr4
        go_wp2_with fail
        refine (rWithinE p.sd 0 30 r4 HR4.out _).mono ?_
        rintro e w' ⟨rfl, rfl⟩
        cases r4
        · go_wp2_with fail
          go_ret
          exact ⟨ret_bool (Pure.plan_no fun g => absurd g.sd (of_decide_eq_false HR4.out)).symm, HB.out⟩
        · have E4 := of_decide_eq_true HR4.out
          obtain ⟨r5, hr5⟩ : ∃ r, decide ((0 : Int) ≤ p.ck ∧ p.ck ≤ 30) = r := ⟨_, rfl⟩
          have HR5 := Lib.hid hr5
          clear hr5
          go_wp2_with fail
          refine (rWithinE p.ck 0 30 r5 HR5.out _).mono ?_
          rintro e w' ⟨rfl, rfl⟩
          cases r5
          · go_wp2_with fail
            go_ret
            exact ⟨ret_bool (Pure.plan_no fun g => absurd g.ck (of_decide_eq_false HR5.out)).symm, HB.out⟩
          · have E5 := of_decide_eq_true HR5.out
            by_cases h6 : 6 < (p.an : Int)
            · go_wp2_with fail
              go_ret
              exact ⟨ret_bool (Pure.plan_no fun g => by have := g.an; omega).symm, HB.out⟩
            · by_cases h7 : 8 < (p.sn : Int)
              · go_wp2_with fail
                go_ret
                exact ⟨ret_bool (Pure.plan_no fun g => by have := g.sn; omega).symm, HB.out⟩
              · obtain ⟨r8, hr8⟩ : ∃ r, decide ((0 : Int) ≤ p.bu ∧ p.bu ≤ 4) = r := ⟨_, rfl⟩
                have HR8 := Lib.hid hr8
                clear hr8
                go_wp2_with fail
                refine (rWithinE p.bu 0 4 r8 HR8.out _).mono ?_
                rintro e w' ⟨rfl, rfl⟩
                cases r8
                · go_wp2_with fail
                  go_ret
                  exact ⟨ret_bool (Pure.plan_no fun g => absurd g.bu (of_decide_eq_false HR8.out)).symm, HB.out⟩
                · have E8 := of_decide_eq_true HR8.out
                  have hd : 0 ≤ p.fr ∧ p.fr ≤ 3652 := by omega
                  clear k0 k1 k2 k3 k4 k5 k6
                  have k0 := heap_cell HX.out (j := 1) rfl
                  go_wp2_with fail
                  go_loop [4, 63] (fun _ i => ∃ k : Nat, k ≤ p.tn ∧ i = .int .i64 k ∧ ∀ j, j < k → 0 ≤ T j ∧ T j ≤ 4) (fun _ i => p.tn - (intOf i).toNat)
                  case atStart => exact ⟨0, Nat.zero_le _, rfl, fun j hj => by omega⟩
                  case round =>
                    obtain ⟨k, hk, rfl, hq⟩ := hrel
                    have HQ := Lib.hid hq
                    clear hq
                    by_cases hk1 : k < p.tn
                    · obtain ⟨b, off, hta, hc1⟩ := HP.out.t k hk1
                      rw [hta]
                      obtain ⟨r, hr⟩ : ∃ r, decide ((0 : Int) ≤ T k ∧ T k ≤ 4) = r := ⟨_, rfl⟩
                      have HR := Lib.hid hr
                      clear hr
                      go_wp2_with fail
                      refine (rWithinE (T k) 0 4 r HR.out _).mono ?_
                      rintro e w' ⟨rfl, rfl⟩
                      cases r
                      · go_wp2_with fail
                        go_ret
                        exact ⟨ret_bool (Pure.plan_no fun g => absurd (g.t k hk1) (of_decide_eq_false HR.out)).symm, HB.out⟩
                      · go_wp2_with fail
                        go_round
                        case rel => exact ⟨k + 1, by omega, by go_num, fun j hj => by
                          by_cases e : j = k
                          · subst e; exact of_decide_eq_true HR.out
                          · exact HQ.out j (by omega)⟩
                        case measure => simp [intOf]; omega
                    · obtain rfl : k = p.tn := by omega
                      have kk4 : W.cell? ⟨w.heap.size, 4, none⟩ = some (.slice p.aa p.an p.ac) := heap_cell HX.out (j := 4) rfl
                      go_wp2_with fail
                      go_loopw [5] (fun i wr => ∃ k : Nat, k ≤ p.an ∧ i = .int .i64 k ∧ (∀ j, j < k → Pure.wrongA p (A (j * 2)) (A (j * 2 + 1)) = false) ∧ (∀ j, j + 1 < k → A (j * 2) ≤ A ((j + 1) * 2)) ∧ Below W.heap.size W wr) (fun i _ => p.an - (intOf i).toNat)
                      case atStart => exact ⟨0, Nat.zero_le _, rfl, fun j hj => by omega, fun j hj => by omega, Below.refl _ _⟩
                      case round =>
                        obtain ⟨k, hk, rfl, hq, hqo, hb⟩ := hrel
                        have HQa := Lib.hid hq
                        have HOa := Lib.hid hqo
                        have HBa := Lib.hid hb
                        have HXa := Lib.hid (heap_lft HX.out hb)
                        have HPa := Lib.hid (HP.out.below hb)
                        have hss : w.heap.size < wr.heap.size := by have := HBS.out; have := hb.size; omega
                        clear hq hqo hb
                        by_cases hk1 : k < p.an
                        · obtain ⟨b, off, hta, _⟩ := HPa.out.a (k * 2) (by omega)
                          have HN := HPa.out.a
                          have k0 : wr.cell? ⟨w.heap.size, 4, none⟩ = some (.slice (some ⟨b, off, none⟩) p.an p.ac) := by rw [← hta]; exact heap_cell HXa.out (j := 4) rfl
                          rw [hta] at HN
                          have c0 := HN.at (show k * 2 < p.an * 2 by omega)
                          have c1 := nums_row HN (show k * 2 + 1 < p.an * 2 by omega)
                          have hp1 : 0 < k → wr.cell? ⟨b, off + (k - 1) * 2, none⟩ = some (.int .i64 (A ((k - 1) * 2))) := fun h0 => HN.at (show (k - 1) * 2 < p.an * 2 by omega)
                          have HP1 := Lib.hid hp1
                          have HC := Lib.hid (⟨c0, c1⟩ : wr.cell? ⟨b, off + k * 2, none⟩ = some (.int .i64 (A (k * 2))) ∧ wr.cell? ⟨b, off + k * 2 + 1, none⟩ = some (.int .i64 (A (k * 2 + 1))))
                          clear HN hp1
                          go_upto_region 13 with fail
                          clear c0 c1 k0
                          obtain ⟨U, hU⟩ : ∃ U, wr.alloc (.cells #[.int .i64 (A (k * 2)), .int .i64 (A (k * 2 + 1))] 43) = U := ⟨_, rfl⟩
                          have HU0 : Hid (Below wr.heap.size wr U) := Lib.hid (by rw [← hU]; exact below_new _ _)
                          have HUX : Hid (U.heap[wr.heap.size]? = some (.cells #[.int .i64 (A (k * 2)), .int .i64 (A (k * 2 + 1))] 43)) := Lib.hid (by rw [← hU]; exact heap_top _ _ rfl)
                          have HUP : Hid (U.heap[w.heap.size]? = some (planB p)) := Lib.hid (heap_lft HXa.out HU0.out)
                          have HUB : Hid (Below w.heap.size w U) := Lib.hid (below_thn HB.out (below_thn HBa.out HU0.out))
                          try rw [hU]
                          clear hU
                          have k0 := heap_cell HUP.out (j := 0) rfl
                          have k1 := heap_cell HUP.out (j := 1) rfl
                          have k2 := heap_cell HUP.out (j := 2) rfl
                          have k3 := heap_cell HUP.out (j := 3) rfl
                          have k4 : U.cell? ⟨w.heap.size, 4, none⟩ = some (.slice (some ⟨b, off, none⟩) p.an p.ac) := by rw [← hta]; exact heap_cell HUP.out (j := 4) rfl
                          have k5 := heap_cell HUP.out (j := 5) rfl
                          have k6 := heap_cell HUP.out (j := 6) rfl
                          have b0 := heap_cell HUX.out (j := 0) rfl
                          have b1 := heap_cell HUX.out (j := 1) rfl
                          clear hta
                          obtain ⟨r0, hr0⟩ : ∃ r, Pure.isDay p (A (k * 2)) = r := ⟨_, rfl⟩
                          have HRa0 := Lib.hid hr0
                          clear hr0
                          cases r0
                          · have xx0 := among_below k0
                            have xx1 := among_below k1
                            have xx2 := among_below k2
                            have xx3 := among_below k3
                            have xx4 := among_below k4
                            have xx5 := among_below k5
                            have xx6 := among_below k6
                            have xx7 := among_below b0
                            have xx8 := among_below b1
                            have HC0 : Hid (∀ xq : Among (Below U.heap.size U), Calls Try.prog 55 #[planV { p with aa := some ⟨b, off, none⟩ }, .int .i64 (A (k * 2))] xq.val fun e w' => e = .returned (.bool false) ∧ ∃ y : Among (Below U.heap.size U), w' = y.val) := Lib.hid (fun xq => calls_class ((rDayE { p with aa := some ⟨b, off, none⟩ } (A (k * 2)) false hd.1 hd.2 hn (HBA.out _ (by omega)) HRa0.out xq.val).mono fun e w' h => ⟨h.1, xq.ok.trans (h.2.mono xq.ok.size)⟩))
                            have HSt : Hid (Below U.heap.size U U.drew) := Lib.hid (Below.refl _ _).drew
                            have hne : Nonempty (Among (Below U.heap.size U)) := ⟨⟨_, HSt.out⟩⟩
                            refine wp_region_class (Below U.heap.size U) (by kernel_rfl) (by kernel_rfl) HSt.out ?_
                            repeat (go_big_quiet_step ((first | (go_at_call 55; (first | with_reducible exact HC0.out _)))))
                            refine wpQuiet_nil ?_
                            intro w8 hx
                            have HB8 := Lib.hid (among_out hx)
                            clear hx hne xx0 xx1 xx2 xx3 xx4 xx5 xx6 xx7 xx8
                            go_wp2_with fail
                            go_ret
                            exact ⟨ret_bool (Pure.plan_no fun g => by have := g.a k hk1; unfold Pure.wrongA at this; rw [HRa0.out] at this; simp at this).symm, below_thn HUB.out HB8.out⟩
                          · obtain ⟨r1, hr1⟩ : ∃ r, decide ((1 : Int) ≤ A (k * 2 + 1) ∧ A (k * 2 + 1) ≤ 30) = r := ⟨_, rfl⟩
                            have HRa1 := Lib.hid hr1
                            clear hr1
                            cases r1
                            · have xx0 := among_below k0
                              have xx1 := among_below k1
                              have xx2 := among_below k2
                              have xx3 := among_below k3
                              have xx4 := among_below k4
                              have xx5 := among_below k5
                              have xx6 := among_below k6
                              have xx7 := among_below b0
                              have xx8 := among_below b1
                              have HC0 : Hid (∀ xq : Among (Below U.heap.size U), Calls Try.prog 55 #[planV { p with aa := some ⟨b, off, none⟩ }, .int .i64 (A (k * 2))] xq.val fun e w' => e = .returned (.bool true) ∧ ∃ y : Among (Below U.heap.size U), w' = y.val) := Lib.hid (fun xq => calls_class ((rDayE { p with aa := some ⟨b, off, none⟩ } (A (k * 2)) true hd.1 hd.2 hn (HBA.out _ (by omega)) HRa0.out xq.val).mono fun e w' h => ⟨h.1, xq.ok.trans (h.2.mono xq.ok.size)⟩))
                              have HC1 : Hid (∀ xq : Among (Below U.heap.size U), Calls Try.prog 54 #[.int .i64 (A (k * 2 + 1)), .int .i64 1, .int .i64 30] xq.val fun e w' => e = .returned (.bool false) ∧ ∃ y : Among (Below U.heap.size U), w' = y.val) := Lib.hid (fun xq => calls_class ((rWithinE (A (k * 2 + 1)) 1 30 false HRa1.out xq.val).mono fun e w' h => ⟨h.1, by rw [← h.2]; exact xq.ok⟩))
                              have HSt : Hid (Below U.heap.size U U.drew) := Lib.hid (Below.refl _ _).drew
                              have hne : Nonempty (Among (Below U.heap.size U)) := ⟨⟨_, HSt.out⟩⟩
                              refine wp_region_class (Below U.heap.size U) (by kernel_rfl) (by kernel_rfl) HSt.out ?_
                              repeat (go_big_quiet_step ((first | (go_at_call 55; (first | with_reducible exact HC0.out _)) | (go_at_call 54; (first | with_reducible exact HC1.out _)))))
                              refine wpQuiet_nil ?_
                              intro w8 hx
                              have HB8 := Lib.hid (among_out hx)
                              clear hx hne xx0 xx1 xx2 xx3 xx4 xx5 xx6 xx7 xx8
                              go_wp2_with fail
                              go_ret
                              exact ⟨ret_bool (Pure.plan_no fun g => by have := g.a k hk1; unfold Pure.wrongA at this; rw [HRa1.out] at this; simp at this).symm, below_thn HUB.out HB8.out⟩
                            · have HW : Hid (Pure.wrongA p (A (k * 2)) (A (k * 2 + 1)) = false) := Lib.hid (by unfold Pure.wrongA; rw [HRa0.out, HRa1.out]; rfl)
                              by_cases hk0 : k = 0
                              · have z1 : decide ((0 : Int) < (k : Int)) = false := decide_eq_false (by omega)
                                have HOK : Hid (∀ j : Nat, j + 1 = k → A (j * 2) ≤ A ((j + 1) * 2)) := Lib.hid (fun _ h => absurd h (by omega))
                                have z0 : ¬ 0 < k := by omega
                                clear hk0
                                have xx0 := among_below k0
                                have xx1 := among_below k1
                                have xx2 := among_below k2
                                have xx3 := among_below k3
                                have xx4 := among_below k4
                                have xx5 := among_below k5
                                have xx6 := among_below k6
                                have xx7 := among_below b0
                                have xx8 := among_below b1
                                have HC0 : Hid (∀ xq : Among (Below U.heap.size U), Calls Try.prog 55 #[planV { p with aa := some ⟨b, off, none⟩ }, .int .i64 (A (k * 2))] xq.val fun e w' => e = .returned (.bool true) ∧ ∃ y : Among (Below U.heap.size U), w' = y.val) := Lib.hid (fun xq => calls_class ((rDayE { p with aa := some ⟨b, off, none⟩ } (A (k * 2)) true hd.1 hd.2 hn (HBA.out _ (by omega)) HRa0.out xq.val).mono fun e w' h => ⟨h.1, xq.ok.trans (h.2.mono xq.ok.size)⟩))
                                have HC1 : Hid (∀ xq : Among (Below U.heap.size U), Calls Try.prog 54 #[.int .i64 (A (k * 2 + 1)), .int .i64 1, .int .i64 30] xq.val fun e w' => e = .returned (.bool true) ∧ ∃ y : Among (Below U.heap.size U), w' = y.val) := Lib.hid (fun xq => calls_class ((rWithinE (A (k * 2 + 1)) 1 30 true HRa1.out xq.val).mono fun e w' h => ⟨h.1, by rw [← h.2]; exact xq.ok⟩))
                                have HSt : Hid (Below U.heap.size U U.drew) := Lib.hid (Below.refl _ _).drew
                                have hne : Nonempty (Among (Below U.heap.size U)) := ⟨⟨_, HSt.out⟩⟩
                                refine wp_region_class (Below U.heap.size U) (by kernel_rfl) (by kernel_rfl) HSt.out ?_
                                repeat (go_big_quiet_step ((first | (go_at_call 55; (first | with_reducible exact HC0.out _)) | (go_at_call 54; (first | with_reducible exact HC1.out _)))))
                                refine wpQuiet_nil ?_
                                intro w8 hx
                                have HB8 := Lib.hid (among_out hx)
                                clear hx hne xx0 xx1 xx2 xx3 xx4 xx5 xx6 xx7 xx8
                                go_wp2_with fail
                                go_roundw
                                case rel => exact ⟨k + 1, by omega, by go_num, fun j hj => by
                                  by_cases e : j = k
                                  · subst e; exact HW.out
                                  · exact HQa.out j (by omega), fun j hj => by
                                  by_cases e : j + 1 = k
                                  · exact HOK.out j e
                                  · exact HOa.out j (by omega), below_thn HBa.out (below_thn HU0.out HB8.out)⟩
                                case measure => simp [intOf]; omega
                              · have c9 := below_cell HU0.out (HP1.out (by omega))
                                obtain ⟨pv, hpv⟩ : ∃ v, A ((k - 1) * 2) = v := ⟨_, rfl⟩
                                rw [hpv] at c9
                                have HPV := Lib.hid hpv
                                clear hpv
                                have z1 : decide ((0 : Int) < (k : Int)) = true := decide_eq_true (by omega)
                                have z0 : (0 : Int) < k := by omega
                                have z6 : 0 < k := by omega
                                have z2 : IntKind.i64.wrap ((k : Int) - 1) = (k : Int) - 1 := IntWalk.i64_in _ (by omega)
                                have z3 : ((k : Int) - 1).toNat = k - 1 := by omega
                                have z4 : (0 : Int) ≤ (k : Int) - 1 := by omega
                                have z5 : (k : Int) - 1 < p.an := by omega
                                by_cases ho : pv ≤ A (k * 2)
                                · have HOK : Hid (∀ j : Nat, j + 1 = k → A (j * 2) ≤ A ((j + 1) * 2)) := Lib.hid (fun j h => by subst h; have := HPV.out; rw [Nat.add_sub_cancel] at this; rw [this]; exact ho)
                                  have xx0 := among_below k0
                                  have xx1 := among_below k1
                                  have xx2 := among_below k2
                                  have xx3 := among_below k3
                                  have xx4 := among_below k4
                                  have xx5 := among_below k5
                                  have xx6 := among_below k6
                                  have xx7 := among_below b0
                                  have xx8 := among_below b1
                                  have xx9 := among_below c9
                                  have HC0 : Hid (∀ xq : Among (Below U.heap.size U), Calls Try.prog 55 #[planV { p with aa := some ⟨b, off, none⟩ }, .int .i64 (A (k * 2))] xq.val fun e w' => e = .returned (.bool true) ∧ ∃ y : Among (Below U.heap.size U), w' = y.val) := Lib.hid (fun xq => calls_class ((rDayE { p with aa := some ⟨b, off, none⟩ } (A (k * 2)) true hd.1 hd.2 hn (HBA.out _ (by omega)) HRa0.out xq.val).mono fun e w' h => ⟨h.1, xq.ok.trans (h.2.mono xq.ok.size)⟩))
                                  have HC1 : Hid (∀ xq : Among (Below U.heap.size U), Calls Try.prog 54 #[.int .i64 (A (k * 2 + 1)), .int .i64 1, .int .i64 30] xq.val fun e w' => e = .returned (.bool true) ∧ ∃ y : Among (Below U.heap.size U), w' = y.val) := Lib.hid (fun xq => calls_class ((rWithinE (A (k * 2 + 1)) 1 30 true HRa1.out xq.val).mono fun e w' h => ⟨h.1, by rw [← h.2]; exact xq.ok⟩))
                                  have HSt : Hid (Below U.heap.size U U.drew) := Lib.hid (Below.refl _ _).drew
                                  have hne : Nonempty (Among (Below U.heap.size U)) := ⟨⟨_, HSt.out⟩⟩
                                  refine wp_region_class (Below U.heap.size U) (by kernel_rfl) (by kernel_rfl) HSt.out ?_
                                  repeat (go_big_quiet_step ((first | (go_at_call 55; (first | with_reducible exact HC0.out _)) | (go_at_call 54; (first | with_reducible exact HC1.out _)))))
                                  refine wpQuiet_nil ?_
                                  intro w8 hx
                                  have HB8 := Lib.hid (among_out hx)
                                  clear hx hne xx0 xx1 xx2 xx3 xx4 xx5 xx6 xx7 xx8 xx9
                                  go_wp2_with fail
                                  go_roundw
                                  case rel => exact ⟨k + 1, by omega, by go_num, fun j hj => by
                                    by_cases e : j = k
                                    · subst e; exact HW.out
                                    · exact HQa.out j (by omega), fun j hj => by
                                    by_cases e : j + 1 = k
                                    · exact HOK.out j e
                                    · exact HOa.out j (by omega), below_thn HBa.out (below_thn HU0.out HB8.out)⟩
                                  case measure => simp [intOf]; omega
                                · have xx0 := among_below k0
                                  have xx1 := among_below k1
                                  have xx2 := among_below k2
                                  have xx3 := among_below k3
                                  have xx4 := among_below k4
                                  have xx5 := among_below k5
                                  have xx6 := among_below k6
                                  have xx7 := among_below b0
                                  have xx8 := among_below b1
                                  have xx9 := among_below c9
                                  have HC0 : Hid (∀ xq : Among (Below U.heap.size U), Calls Try.prog 55 #[planV { p with aa := some ⟨b, off, none⟩ }, .int .i64 (A (k * 2))] xq.val fun e w' => e = .returned (.bool true) ∧ ∃ y : Among (Below U.heap.size U), w' = y.val) := Lib.hid (fun xq => calls_class ((rDayE { p with aa := some ⟨b, off, none⟩ } (A (k * 2)) true hd.1 hd.2 hn (HBA.out _ (by omega)) HRa0.out xq.val).mono fun e w' h => ⟨h.1, xq.ok.trans (h.2.mono xq.ok.size)⟩))
                                  have HC1 : Hid (∀ xq : Among (Below U.heap.size U), Calls Try.prog 54 #[.int .i64 (A (k * 2 + 1)), .int .i64 1, .int .i64 30] xq.val fun e w' => e = .returned (.bool true) ∧ ∃ y : Among (Below U.heap.size U), w' = y.val) := Lib.hid (fun xq => calls_class ((rWithinE (A (k * 2 + 1)) 1 30 true HRa1.out xq.val).mono fun e w' h => ⟨h.1, by rw [← h.2]; exact xq.ok⟩))
                                  have HSt : Hid (Below U.heap.size U U.drew) := Lib.hid (Below.refl _ _).drew
                                  have hne : Nonempty (Among (Below U.heap.size U)) := ⟨⟨_, HSt.out⟩⟩
                                  refine wp_region_class (Below U.heap.size U) (by kernel_rfl) (by kernel_rfl) HSt.out ?_
                                  repeat (go_big_quiet_step ((first | (go_at_call 55; (first | with_reducible exact HC0.out _)) | (go_at_call 54; (first | with_reducible exact HC1.out _)))))
                                  refine wpQuiet_nil ?_
                                  intro w8 hx
                                  have HB8 := Lib.hid (among_out hx)
                                  clear hx hne xx0 xx1 xx2 xx3 xx4 xx5 xx6 xx7 xx8 xx9
                                  go_wp2_with fail
                                  go_ret
                                  exact ⟨ret_bool (Pure.plan_no fun g => by have := g.ao (k - 1) (by omega); rw [show k - 1 + 1 = k by omega, HPV.out] at this; omega).symm, below_thn HUB.out HB8.out⟩
                        · obtain rfl : k = p.an := by omega
                          have k0 : wr.cell? ⟨w.heap.size, 4, none⟩ = some (.slice p.aa p.an p.ac) := heap_cell HXa.out (j := 4) rfl
                          have kk5 : wr.cell? ⟨w.heap.size, 5, none⟩ = some (.slice p.sa p.sn p.sc) := heap_cell HXa.out (j := 5) rfl
                          go_wp2_with fail
                          go_loopw [7] (fun i wr => ∃ k : Nat, k ≤ p.sn ∧ i = .int .i64 k ∧ (∀ j, j < k → Pure.wrongS p (S (j * 4)) (S (j * 4 + 1)) (S (j * 4 + 2)) (S (j * 4 + 3)) = false) ∧ (∀ j, j + 1 < k → S (j * 4) < S ((j + 1) * 4)) ∧ Below W.heap.size W wr) (fun i _ => p.sn - (intOf i).toNat)
                          case atStart => exact ⟨0, Nat.zero_le _, rfl, fun j hj => by omega, fun j hj => by omega, HBa.out⟩
                          case round =>
                            obtain ⟨k, hk, rfl, hq, hqo, hb⟩ := hrel
                            have HQb := Lib.hid hq
                            have HOb := Lib.hid hqo
                            have HBb := Lib.hid hb
                            have HXb := Lib.hid (heap_lft HX.out hb)
                            have HPb := Lib.hid (HP.out.below hb)
                            have hss : w.heap.size < wr.heap.size := by have := HBS.out; have := hb.size; omega
                            clear hq hqo hb
                            by_cases hk1 : k < p.sn
                            · obtain ⟨b, off, hta, _⟩ := HPb.out.s (k * 4) (by omega)
                              have HN := HPb.out.s
                              have k0 : wr.cell? ⟨w.heap.size, 5, none⟩ = some (.slice (some ⟨b, off, none⟩) p.sn p.sc) := by rw [← hta]; exact heap_cell HXb.out (j := 5) rfl
                              rw [hta] at HN
                              have c0 := HN.at (show k * 4 < p.sn * 4 by omega)
                              have c1 := nums_row HN (show k * 4 + 1 < p.sn * 4 by omega)
                              have c2 := nums_row HN (show k * 4 + 2 < p.sn * 4 by omega)
                              have c3 := nums_row HN (show k * 4 + 3 < p.sn * 4 by omega)
                              have hp1 : 0 < k → wr.cell? ⟨b, off + (k - 1) * 4, none⟩ = some (.int .i64 (S ((k - 1) * 4))) := fun h0 => HN.at (show (k - 1) * 4 < p.sn * 4 by omega)
                              have HP1 := Lib.hid hp1
                              have HC := Lib.hid (⟨c0, c1, c2, c3⟩ : wr.cell? ⟨b, off + k * 4, none⟩ = some (.int .i64 (S (k * 4))) ∧ wr.cell? ⟨b, off + k * 4 + 1, none⟩ = some (.int .i64 (S (k * 4 + 1))) ∧ wr.cell? ⟨b, off + k * 4 + 2, none⟩ = some (.int .i64 (S (k * 4 + 2))) ∧ wr.cell? ⟨b, off + k * 4 + 3, none⟩ = some (.int .i64 (S (k * 4 + 3))))
                              clear HN hp1
                              go_upto_region 19 with fail
                              clear c0 c1 c2 c3 k0
                              obtain ⟨U, hU⟩ : ∃ U, wr.alloc (.cells #[.int .i64 (S (k * 4)), .int .i64 (S (k * 4 + 1)), .int .i64 (S (k * 4 + 2)), .int .i64 (S (k * 4 + 3))] 41) = U := ⟨_, rfl⟩
                              have HU0 : Hid (Below wr.heap.size wr U) := Lib.hid (by rw [← hU]; exact below_new _ _)
                              have HUX : Hid (U.heap[wr.heap.size]? = some (.cells #[.int .i64 (S (k * 4)), .int .i64 (S (k * 4 + 1)), .int .i64 (S (k * 4 + 2)), .int .i64 (S (k * 4 + 3))] 41)) := Lib.hid (by rw [← hU]; exact heap_top _ _ rfl)
                              have HUP : Hid (U.heap[w.heap.size]? = some (planB p)) := Lib.hid (heap_lft HXb.out HU0.out)
                              have HUB : Hid (Below w.heap.size w U) := Lib.hid (below_thn HB.out (below_thn HBb.out HU0.out))
                              try rw [hU]
                              clear hU
                              have k0 := heap_cell HUP.out (j := 0) rfl
                              have k1 := heap_cell HUP.out (j := 1) rfl
                              have k2 := heap_cell HUP.out (j := 2) rfl
                              have k3 := heap_cell HUP.out (j := 3) rfl
                              have k4 := heap_cell HUP.out (j := 4) rfl
                              have k5 : U.cell? ⟨w.heap.size, 5, none⟩ = some (.slice (some ⟨b, off, none⟩) p.sn p.sc) := by rw [← hta]; exact heap_cell HUP.out (j := 5) rfl
                              have k6 := heap_cell HUP.out (j := 6) rfl
                              have b0 := heap_cell HUX.out (j := 0) rfl
                              have b1 := heap_cell HUX.out (j := 1) rfl
                              have b2 := heap_cell HUX.out (j := 2) rfl
                              have b3 := heap_cell HUX.out (j := 3) rfl
                              clear hta
                              obtain ⟨r0, hr0⟩ : ∃ r, decide ((1 : Int) ≤ S (k * 4) ∧ S (k * 4) ≤ 9999) = r := ⟨_, rfl⟩
                              have HRb0 := Lib.hid hr0
                              clear hr0
                              cases r0
                              · have xx0 := among_below k0
                                have xx1 := among_below k1
                                have xx2 := among_below k2
                                have xx3 := among_below k3
                                have xx4 := among_below k4
                                have xx5 := among_below k5
                                have xx6 := among_below k6
                                have xx7 := among_below b0
                                have xx8 := among_below b1
                                have xx9 := among_below b2
                                have xx10 := among_below b3
                                have HC0 : Hid (∀ xq : Among (Below U.heap.size U), Calls Try.prog 54 #[.int .i64 (S (k * 4)), .int .i64 1, .int .i64 9999] xq.val fun e w' => e = .returned (.bool false) ∧ ∃ y : Among (Below U.heap.size U), w' = y.val) := Lib.hid (fun xq => calls_class ((rWithinE (S (k * 4)) 1 9999 false HRb0.out xq.val).mono fun e w' h => ⟨h.1, by rw [← h.2]; exact xq.ok⟩))
                                have HSt : Hid (Below U.heap.size U U.drew) := Lib.hid (Below.refl _ _).drew
                                have hne : Nonempty (Among (Below U.heap.size U)) := ⟨⟨_, HSt.out⟩⟩
                                refine wp_region_class (Below U.heap.size U) (by kernel_rfl) (by kernel_rfl) HSt.out ?_
                                repeat (go_big_quiet_step ((first | (go_at_call 54; (first | with_reducible exact HC0.out _)))))
                                refine wpQuiet_nil ?_
                                intro w8 hx
                                have HB8 := Lib.hid (among_out hx)
                                clear hx hne xx0 xx1 xx2 xx3 xx4 xx5 xx6 xx7 xx8 xx9 xx10
                                go_wp2_with fail
                                go_ret
                                exact ⟨ret_bool (Pure.plan_no fun g => by have := g.s k hk1; unfold Pure.wrongS at this; rw [HRb0.out] at this; simp at this).symm, below_thn HUB.out HB8.out⟩
                              · obtain ⟨r1, hr1⟩ : ∃ r, decide ((1 : Int) ≤ S (k * 4 + 1) ∧ S (k * 4 + 1) ≤ 2) = r := ⟨_, rfl⟩
                                have HRb1 := Lib.hid hr1
                                clear hr1
                                cases r1
                                · have xx0 := among_below k0
                                  have xx1 := among_below k1
                                  have xx2 := among_below k2
                                  have xx3 := among_below k3
                                  have xx4 := among_below k4
                                  have xx5 := among_below k5
                                  have xx6 := among_below k6
                                  have xx7 := among_below b0
                                  have xx8 := among_below b1
                                  have xx9 := among_below b2
                                  have xx10 := among_below b3
                                  have HC0 : Hid (∀ xq : Among (Below U.heap.size U), Calls Try.prog 54 #[.int .i64 (S (k * 4)), .int .i64 1, .int .i64 9999] xq.val fun e w' => e = .returned (.bool true) ∧ ∃ y : Among (Below U.heap.size U), w' = y.val) := Lib.hid (fun xq => calls_class ((rWithinE (S (k * 4)) 1 9999 true HRb0.out xq.val).mono fun e w' h => ⟨h.1, by rw [← h.2]; exact xq.ok⟩))
                                  have HC1 : Hid (∀ xq : Among (Below U.heap.size U), Calls Try.prog 54 #[.int .i64 (S (k * 4 + 1)), .int .i64 1, .int .i64 2] xq.val fun e w' => e = .returned (.bool false) ∧ ∃ y : Among (Below U.heap.size U), w' = y.val) := Lib.hid (fun xq => calls_class ((rWithinE (S (k * 4 + 1)) 1 2 false HRb1.out xq.val).mono fun e w' h => ⟨h.1, by rw [← h.2]; exact xq.ok⟩))
                                  have HSt : Hid (Below U.heap.size U U.drew) := Lib.hid (Below.refl _ _).drew
                                  have hne : Nonempty (Among (Below U.heap.size U)) := ⟨⟨_, HSt.out⟩⟩
                                  refine wp_region_class (Below U.heap.size U) (by kernel_rfl) (by kernel_rfl) HSt.out ?_
                                  repeat (go_big_quiet_step ((first | (go_at_call 54; (first | with_reducible exact HC0.out _ | with_reducible exact HC1.out _)))))
                                  refine wpQuiet_nil ?_
                                  intro w8 hx
                                  have HB8 := Lib.hid (among_out hx)
                                  clear hx hne xx0 xx1 xx2 xx3 xx4 xx5 xx6 xx7 xx8 xx9 xx10
                                  go_wp2_with fail
                                  go_ret
                                  exact ⟨ret_bool (Pure.plan_no fun g => by have := g.s k hk1; unfold Pure.wrongS at this; rw [HRb1.out] at this; simp at this).symm, below_thn HUB.out HB8.out⟩
                                · obtain ⟨r2, hr2⟩ : ∃ r, decide ((1 : Int) ≤ S (k * 4 + 2) ∧ S (k * 4 + 2) ≤ 6) = r := ⟨_, rfl⟩
                                  have HRb2 := Lib.hid hr2
                                  clear hr2
                                  cases r2
                                  · have xx0 := among_below k0
                                    have xx1 := among_below k1
                                    have xx2 := among_below k2
                                    have xx3 := among_below k3
                                    have xx4 := among_below k4
                                    have xx5 := among_below k5
                                    have xx6 := among_below k6
                                    have xx7 := among_below b0
                                    have xx8 := among_below b1
                                    have xx9 := among_below b2
                                    have xx10 := among_below b3
                                    have HC0 : Hid (∀ xq : Among (Below U.heap.size U), Calls Try.prog 54 #[.int .i64 (S (k * 4)), .int .i64 1, .int .i64 9999] xq.val fun e w' => e = .returned (.bool true) ∧ ∃ y : Among (Below U.heap.size U), w' = y.val) := Lib.hid (fun xq => calls_class ((rWithinE (S (k * 4)) 1 9999 true HRb0.out xq.val).mono fun e w' h => ⟨h.1, by rw [← h.2]; exact xq.ok⟩))
                                    have HC1 : Hid (∀ xq : Among (Below U.heap.size U), Calls Try.prog 54 #[.int .i64 (S (k * 4 + 1)), .int .i64 1, .int .i64 2] xq.val fun e w' => e = .returned (.bool true) ∧ ∃ y : Among (Below U.heap.size U), w' = y.val) := Lib.hid (fun xq => calls_class ((rWithinE (S (k * 4 + 1)) 1 2 true HRb1.out xq.val).mono fun e w' h => ⟨h.1, by rw [← h.2]; exact xq.ok⟩))
                                    have HC2 : Hid (∀ xq : Among (Below U.heap.size U), Calls Try.prog 54 #[.int .i64 (S (k * 4 + 2)), .int .i64 1, .int .i64 6] xq.val fun e w' => e = .returned (.bool false) ∧ ∃ y : Among (Below U.heap.size U), w' = y.val) := Lib.hid (fun xq => calls_class ((rWithinE (S (k * 4 + 2)) 1 6 false HRb2.out xq.val).mono fun e w' h => ⟨h.1, by rw [← h.2]; exact xq.ok⟩))
                                    have HSt : Hid (Below U.heap.size U U.drew) := Lib.hid (Below.refl _ _).drew
                                    have hne : Nonempty (Among (Below U.heap.size U)) := ⟨⟨_, HSt.out⟩⟩
                                    refine wp_region_class (Below U.heap.size U) (by kernel_rfl) (by kernel_rfl) HSt.out ?_
                                    repeat (go_big_quiet_step ((first | (go_at_call 54; (first | with_reducible exact HC0.out _ | with_reducible exact HC1.out _ | with_reducible exact HC2.out _)))))
                                    refine wpQuiet_nil ?_
                                    intro w8 hx
                                    have HB8 := Lib.hid (among_out hx)
                                    clear hx hne xx0 xx1 xx2 xx3 xx4 xx5 xx6 xx7 xx8 xx9 xx10
                                    go_wp2_with fail
                                    go_ret
                                    exact ⟨ret_bool (Pure.plan_no fun g => by have := g.s k hk1; unfold Pure.wrongS at this; rw [HRb2.out] at this; simp at this).symm, below_thn HUB.out HB8.out⟩
                                  · obtain ⟨r3, hr3⟩ : ∃ r, Pure.isDay p (S (k * 4 + 3)) = r := ⟨_, rfl⟩
                                    have HRb3 := Lib.hid hr3
                                    clear hr3
                                    cases r3
                                    · have xx0 := among_below k0
                                      have xx1 := among_below k1
                                      have xx2 := among_below k2
                                      have xx3 := among_below k3
                                      have xx4 := among_below k4
                                      have xx5 := among_below k5
                                      have xx6 := among_below k6
                                      have xx7 := among_below b0
                                      have xx8 := among_below b1
                                      have xx9 := among_below b2
                                      have xx10 := among_below b3
                                      have HC0 : Hid (∀ xq : Among (Below U.heap.size U), Calls Try.prog 54 #[.int .i64 (S (k * 4)), .int .i64 1, .int .i64 9999] xq.val fun e w' => e = .returned (.bool true) ∧ ∃ y : Among (Below U.heap.size U), w' = y.val) := Lib.hid (fun xq => calls_class ((rWithinE (S (k * 4)) 1 9999 true HRb0.out xq.val).mono fun e w' h => ⟨h.1, by rw [← h.2]; exact xq.ok⟩))
                                      have HC1 : Hid (∀ xq : Among (Below U.heap.size U), Calls Try.prog 54 #[.int .i64 (S (k * 4 + 1)), .int .i64 1, .int .i64 2] xq.val fun e w' => e = .returned (.bool true) ∧ ∃ y : Among (Below U.heap.size U), w' = y.val) := Lib.hid (fun xq => calls_class ((rWithinE (S (k * 4 + 1)) 1 2 true HRb1.out xq.val).mono fun e w' h => ⟨h.1, by rw [← h.2]; exact xq.ok⟩))
                                      have HC2 : Hid (∀ xq : Among (Below U.heap.size U), Calls Try.prog 54 #[.int .i64 (S (k * 4 + 2)), .int .i64 1, .int .i64 6] xq.val fun e w' => e = .returned (.bool true) ∧ ∃ y : Among (Below U.heap.size U), w' = y.val) := Lib.hid (fun xq => calls_class ((rWithinE (S (k * 4 + 2)) 1 6 true HRb2.out xq.val).mono fun e w' h => ⟨h.1, by rw [← h.2]; exact xq.ok⟩))
                                      have HC3 : Hid (∀ xq : Among (Below U.heap.size U), Calls Try.prog 55 #[planV { p with sa := some ⟨b, off, none⟩ }, .int .i64 (S (k * 4 + 3))] xq.val fun e w' => e = .returned (.bool false) ∧ ∃ y : Among (Below U.heap.size U), w' = y.val) := Lib.hid (fun xq => calls_class ((rDayE { p with sa := some ⟨b, off, none⟩ } (S (k * 4 + 3)) false hd.1 hd.2 hn (HBG.out _ (by omega)) HRb3.out xq.val).mono fun e w' h => ⟨h.1, xq.ok.trans (h.2.mono xq.ok.size)⟩))
                                      have HSt : Hid (Below U.heap.size U U.drew) := Lib.hid (Below.refl _ _).drew
                                      have hne : Nonempty (Among (Below U.heap.size U)) := ⟨⟨_, HSt.out⟩⟩
                                      refine wp_region_class (Below U.heap.size U) (by kernel_rfl) (by kernel_rfl) HSt.out ?_
                                      repeat (go_big_quiet_step ((first | (go_at_call 54; (first | with_reducible exact HC0.out _ | with_reducible exact HC1.out _ | with_reducible exact HC2.out _)) | (go_at_call 55; (first | with_reducible exact HC3.out _)))))
                                      refine wpQuiet_nil ?_
                                      intro w8 hx
                                      have HB8 := Lib.hid (among_out hx)
                                      clear hx hne xx0 xx1 xx2 xx3 xx4 xx5 xx6 xx7 xx8 xx9 xx10
                                      go_wp2_with fail
                                      go_ret
                                      exact ⟨ret_bool (Pure.plan_no fun g => by have := g.s k hk1; unfold Pure.wrongS at this; rw [HRb3.out] at this; simp at this).symm, below_thn HUB.out HB8.out⟩
                                    · have HW : Hid (Pure.wrongS p (S (k * 4)) (S (k * 4 + 1)) (S (k * 4 + 2)) (S (k * 4 + 3)) = false) := Lib.hid (by unfold Pure.wrongS; rw [HRb0.out, HRb1.out, HRb2.out, HRb3.out]; rfl)
                                      by_cases hk0 : k = 0
                                      · have z1 : decide ((0 : Int) < (k : Int)) = false := decide_eq_false (by omega)
                                        have HOK : Hid (∀ j : Nat, j + 1 = k → S (j * 4) < S ((j + 1) * 4)) := Lib.hid (fun _ h => absurd h (by omega))
                                        have z0 : ¬ 0 < k := by omega
                                        clear hk0
                                        have xx0 := among_below k0
                                        have xx1 := among_below k1
                                        have xx2 := among_below k2
                                        have xx3 := among_below k3
                                        have xx4 := among_below k4
                                        have xx5 := among_below k5
                                        have xx6 := among_below k6
                                        have xx7 := among_below b0
                                        have xx8 := among_below b1
                                        have xx9 := among_below b2
                                        have xx10 := among_below b3
                                        have HC0 : Hid (∀ xq : Among (Below U.heap.size U), Calls Try.prog 54 #[.int .i64 (S (k * 4)), .int .i64 1, .int .i64 9999] xq.val fun e w' => e = .returned (.bool true) ∧ ∃ y : Among (Below U.heap.size U), w' = y.val) := Lib.hid (fun xq => calls_class ((rWithinE (S (k * 4)) 1 9999 true HRb0.out xq.val).mono fun e w' h => ⟨h.1, by rw [← h.2]; exact xq.ok⟩))
                                        have HC1 : Hid (∀ xq : Among (Below U.heap.size U), Calls Try.prog 54 #[.int .i64 (S (k * 4 + 1)), .int .i64 1, .int .i64 2] xq.val fun e w' => e = .returned (.bool true) ∧ ∃ y : Among (Below U.heap.size U), w' = y.val) := Lib.hid (fun xq => calls_class ((rWithinE (S (k * 4 + 1)) 1 2 true HRb1.out xq.val).mono fun e w' h => ⟨h.1, by rw [← h.2]; exact xq.ok⟩))
                                        have HC2 : Hid (∀ xq : Among (Below U.heap.size U), Calls Try.prog 54 #[.int .i64 (S (k * 4 + 2)), .int .i64 1, .int .i64 6] xq.val fun e w' => e = .returned (.bool true) ∧ ∃ y : Among (Below U.heap.size U), w' = y.val) := Lib.hid (fun xq => calls_class ((rWithinE (S (k * 4 + 2)) 1 6 true HRb2.out xq.val).mono fun e w' h => ⟨h.1, by rw [← h.2]; exact xq.ok⟩))
                                        have HC3 : Hid (∀ xq : Among (Below U.heap.size U), Calls Try.prog 55 #[planV { p with sa := some ⟨b, off, none⟩ }, .int .i64 (S (k * 4 + 3))] xq.val fun e w' => e = .returned (.bool true) ∧ ∃ y : Among (Below U.heap.size U), w' = y.val) := Lib.hid (fun xq => calls_class ((rDayE { p with sa := some ⟨b, off, none⟩ } (S (k * 4 + 3)) true hd.1 hd.2 hn (HBG.out _ (by omega)) HRb3.out xq.val).mono fun e w' h => ⟨h.1, xq.ok.trans (h.2.mono xq.ok.size)⟩))
                                        have HSt : Hid (Below U.heap.size U U.drew) := Lib.hid (Below.refl _ _).drew
                                        have hne : Nonempty (Among (Below U.heap.size U)) := ⟨⟨_, HSt.out⟩⟩
                                        refine wp_region_class (Below U.heap.size U) (by kernel_rfl) (by kernel_rfl) HSt.out ?_
                                        repeat (go_big_quiet_step ((first | (go_at_call 54; (first | with_reducible exact HC0.out _ | with_reducible exact HC1.out _ | with_reducible exact HC2.out _)) | (go_at_call 55; (first | with_reducible exact HC3.out _)))))
                                        refine wpQuiet_nil ?_
                                        intro w8 hx
                                        have HB8 := Lib.hid (among_out hx)
                                        clear hx hne xx0 xx1 xx2 xx3 xx4 xx5 xx6 xx7 xx8 xx9 xx10
                                        go_wp2_with fail
                                        go_roundw
                                        case rel => exact ⟨k + 1, by omega, by go_num, fun j hj => by
                                          by_cases e : j = k
                                          · subst e; exact HW.out
                                          · exact HQb.out j (by omega), fun j hj => by
                                          by_cases e : j + 1 = k
                                          · exact HOK.out j e
                                          · exact HOb.out j (by omega), below_thn HBb.out (below_thn HU0.out HB8.out)⟩
                                        case measure => simp [intOf]; omega
                                      · have c9 := below_cell HU0.out (HP1.out (by omega))
                                        obtain ⟨pv, hpv⟩ : ∃ v, S ((k - 1) * 4) = v := ⟨_, rfl⟩
                                        rw [hpv] at c9
                                        have HPV := Lib.hid hpv
                                        clear hpv
                                        have z1 : decide ((0 : Int) < (k : Int)) = true := decide_eq_true (by omega)
                                        have z0 : (0 : Int) < k := by omega
                                        have z6 : 0 < k := by omega
                                        have z2 : IntKind.i64.wrap ((k : Int) - 1) = (k : Int) - 1 := IntWalk.i64_in _ (by omega)
                                        have z3 : ((k : Int) - 1).toNat = k - 1 := by omega
                                        have z4 : (0 : Int) ≤ (k : Int) - 1 := by omega
                                        have z5 : (k : Int) - 1 < p.sn := by omega
                                        by_cases ho : pv < S (k * 4)
                                        · have HOK : Hid (∀ j : Nat, j + 1 = k → S (j * 4) < S ((j + 1) * 4)) := Lib.hid (fun j h => by subst h; have := HPV.out; rw [Nat.add_sub_cancel] at this; rw [this]; exact ho)
                                          have xx0 := among_below k0
                                          have xx1 := among_below k1
                                          have xx2 := among_below k2
                                          have xx3 := among_below k3
                                          have xx4 := among_below k4
                                          have xx5 := among_below k5
                                          have xx6 := among_below k6
                                          have xx7 := among_below b0
                                          have xx8 := among_below b1
                                          have xx9 := among_below b2
                                          have xx10 := among_below b3
                                          have xx11 := among_below c9
                                          have HC0 : Hid (∀ xq : Among (Below U.heap.size U), Calls Try.prog 54 #[.int .i64 (S (k * 4)), .int .i64 1, .int .i64 9999] xq.val fun e w' => e = .returned (.bool true) ∧ ∃ y : Among (Below U.heap.size U), w' = y.val) := Lib.hid (fun xq => calls_class ((rWithinE (S (k * 4)) 1 9999 true HRb0.out xq.val).mono fun e w' h => ⟨h.1, by rw [← h.2]; exact xq.ok⟩))
                                          have HC1 : Hid (∀ xq : Among (Below U.heap.size U), Calls Try.prog 54 #[.int .i64 (S (k * 4 + 1)), .int .i64 1, .int .i64 2] xq.val fun e w' => e = .returned (.bool true) ∧ ∃ y : Among (Below U.heap.size U), w' = y.val) := Lib.hid (fun xq => calls_class ((rWithinE (S (k * 4 + 1)) 1 2 true HRb1.out xq.val).mono fun e w' h => ⟨h.1, by rw [← h.2]; exact xq.ok⟩))
                                          have HC2 : Hid (∀ xq : Among (Below U.heap.size U), Calls Try.prog 54 #[.int .i64 (S (k * 4 + 2)), .int .i64 1, .int .i64 6] xq.val fun e w' => e = .returned (.bool true) ∧ ∃ y : Among (Below U.heap.size U), w' = y.val) := Lib.hid (fun xq => calls_class ((rWithinE (S (k * 4 + 2)) 1 6 true HRb2.out xq.val).mono fun e w' h => ⟨h.1, by rw [← h.2]; exact xq.ok⟩))
                                          have HC3 : Hid (∀ xq : Among (Below U.heap.size U), Calls Try.prog 55 #[planV { p with sa := some ⟨b, off, none⟩ }, .int .i64 (S (k * 4 + 3))] xq.val fun e w' => e = .returned (.bool true) ∧ ∃ y : Among (Below U.heap.size U), w' = y.val) := Lib.hid (fun xq => calls_class ((rDayE { p with sa := some ⟨b, off, none⟩ } (S (k * 4 + 3)) true hd.1 hd.2 hn (HBG.out _ (by omega)) HRb3.out xq.val).mono fun e w' h => ⟨h.1, xq.ok.trans (h.2.mono xq.ok.size)⟩))
                                          have HSt : Hid (Below U.heap.size U U.drew) := Lib.hid (Below.refl _ _).drew
                                          have hne : Nonempty (Among (Below U.heap.size U)) := ⟨⟨_, HSt.out⟩⟩
                                          refine wp_region_class (Below U.heap.size U) (by kernel_rfl) (by kernel_rfl) HSt.out ?_
                                          repeat (go_big_quiet_step ((first | (go_at_call 54; (first | with_reducible exact HC0.out _ | with_reducible exact HC1.out _ | with_reducible exact HC2.out _)) | (go_at_call 55; (first | with_reducible exact HC3.out _)))))
                                          refine wpQuiet_nil ?_
                                          intro w8 hx
                                          have HB8 := Lib.hid (among_out hx)
                                          clear hx hne xx0 xx1 xx2 xx3 xx4 xx5 xx6 xx7 xx8 xx9 xx10 xx11
                                          go_wp2_with fail
                                          go_roundw
                                          case rel => exact ⟨k + 1, by omega, by go_num, fun j hj => by
                                            by_cases e : j = k
                                            · subst e; exact HW.out
                                            · exact HQb.out j (by omega), fun j hj => by
                                            by_cases e : j + 1 = k
                                            · exact HOK.out j e
                                            · exact HOb.out j (by omega), below_thn HBb.out (below_thn HU0.out HB8.out)⟩
                                          case measure => simp [intOf]; omega
                                        · have xx0 := among_below k0
                                          have xx1 := among_below k1
                                          have xx2 := among_below k2
                                          have xx3 := among_below k3
                                          have xx4 := among_below k4
                                          have xx5 := among_below k5
                                          have xx6 := among_below k6
                                          have xx7 := among_below b0
                                          have xx8 := among_below b1
                                          have xx9 := among_below b2
                                          have xx10 := among_below b3
                                          have xx11 := among_below c9
                                          have HC0 : Hid (∀ xq : Among (Below U.heap.size U), Calls Try.prog 54 #[.int .i64 (S (k * 4)), .int .i64 1, .int .i64 9999] xq.val fun e w' => e = .returned (.bool true) ∧ ∃ y : Among (Below U.heap.size U), w' = y.val) := Lib.hid (fun xq => calls_class ((rWithinE (S (k * 4)) 1 9999 true HRb0.out xq.val).mono fun e w' h => ⟨h.1, by rw [← h.2]; exact xq.ok⟩))
                                          have HC1 : Hid (∀ xq : Among (Below U.heap.size U), Calls Try.prog 54 #[.int .i64 (S (k * 4 + 1)), .int .i64 1, .int .i64 2] xq.val fun e w' => e = .returned (.bool true) ∧ ∃ y : Among (Below U.heap.size U), w' = y.val) := Lib.hid (fun xq => calls_class ((rWithinE (S (k * 4 + 1)) 1 2 true HRb1.out xq.val).mono fun e w' h => ⟨h.1, by rw [← h.2]; exact xq.ok⟩))
                                          have HC2 : Hid (∀ xq : Among (Below U.heap.size U), Calls Try.prog 54 #[.int .i64 (S (k * 4 + 2)), .int .i64 1, .int .i64 6] xq.val fun e w' => e = .returned (.bool true) ∧ ∃ y : Among (Below U.heap.size U), w' = y.val) := Lib.hid (fun xq => calls_class ((rWithinE (S (k * 4 + 2)) 1 6 true HRb2.out xq.val).mono fun e w' h => ⟨h.1, by rw [← h.2]; exact xq.ok⟩))
                                          have HC3 : Hid (∀ xq : Among (Below U.heap.size U), Calls Try.prog 55 #[planV { p with sa := some ⟨b, off, none⟩ }, .int .i64 (S (k * 4 + 3))] xq.val fun e w' => e = .returned (.bool true) ∧ ∃ y : Among (Below U.heap.size U), w' = y.val) := Lib.hid (fun xq => calls_class ((rDayE { p with sa := some ⟨b, off, none⟩ } (S (k * 4 + 3)) true hd.1 hd.2 hn (HBG.out _ (by omega)) HRb3.out xq.val).mono fun e w' h => ⟨h.1, xq.ok.trans (h.2.mono xq.ok.size)⟩))
                                          have HSt : Hid (Below U.heap.size U U.drew) := Lib.hid (Below.refl _ _).drew
                                          have hne : Nonempty (Among (Below U.heap.size U)) := ⟨⟨_, HSt.out⟩⟩
                                          refine wp_region_class (Below U.heap.size U) (by kernel_rfl) (by kernel_rfl) HSt.out ?_
                                          repeat (go_big_quiet_step ((first | (go_at_call 54; (first | with_reducible exact HC0.out _ | with_reducible exact HC1.out _ | with_reducible exact HC2.out _)) | (go_at_call 55; (first | with_reducible exact HC3.out _)))))
                                          refine wpQuiet_nil ?_
                                          intro w8 hx
                                          have HB8 := Lib.hid (among_out hx)
                                          clear hx hne xx0 xx1 xx2 xx3 xx4 xx5 xx6 xx7 xx8 xx9 xx10 xx11
                                          go_wp2_with fail
                                          go_ret
                                          exact ⟨ret_bool (Pure.plan_no fun g => by have := g.so (k - 1) (by omega); rw [show k - 1 + 1 = k by omega, HPV.out] at this; omega).symm, below_thn HUB.out HB8.out⟩
                            · obtain rfl : k = p.sn := by omega
                              have k0 : wr.cell? ⟨w.heap.size, 5, none⟩ = some (.slice p.sa p.sn p.sc) := heap_cell HXb.out (j := 5) rfl
                              clear k0
                              have k0 := heap_cell HXb.out (j := 0) rfl
                              have k1 := heap_cell HXb.out (j := 1) rfl
                              have k2 := heap_cell HXb.out (j := 2) rfl
                              have k3 := heap_cell HXb.out (j := 3) rfl
                              have k4 := heap_cell HXb.out (j := 4) rfl
                              have k5 := heap_cell HXb.out (j := 5) rfl
                              have k6 := heap_cell HXb.out (j := 6) rfl
                              go_wp2_with fail
                              refine (rAll_any p T hn HQ.out _ HPb.out.t).mono ?_
                              rintro e u ⟨rfl, hb⟩
                              by_cases hA : Pure.sumTo T p.tn ≤ 24
                              · have hOK : Pure.OkPlan p T A S := ⟨E1, by omega, HQ.out, hA, E4, E5, E8, by omega, HQa.out, fun j hj => HOa.out j (by omega), by omega, HQb.out, fun j hj => HOb.out j (by omega)⟩
                                have HOK := Lib.hid hOK
                                go_wp2_with fail
                                go_ret
                                exact ⟨ret_bool (by rw [Pure.plan_yes HOK.out]), below_thn (below_thn HB.out HBb.out) hb⟩
                              · have hNO : ¬ Pure.OkPlan p T A S := fun g => hA g.all
                                have HNO := Lib.hid hNO
                                have HNA := Lib.hid hA
                                go_wp2_with fail
                                go_ret
                                exact ⟨ret_bool (by rw [Pure.plan_no HNO.out]; simpa using HNA.out), below_thn (below_thn HB.out HBb.out) hb⟩

end Go.Proofs.Ytacdbjandcdejaa
