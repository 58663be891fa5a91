/-
  The contract of the specification's Paced.
-/
import Derived.Test.YtacdbjandcdejaaZPace
import Derived.Test.YtacdbjandcdejaaZRCheck
import Derived.Test.YtacdbjandcdejaaZRWater
import Derived.BigRegion
namespace Go.Proofs.Ytacdbjandcdejaa
open Go.RowKit

theorem PaceSt.drewPut {w0 : World} {bs PB RB TB : Nat} {p : PlanX} {a1 : Option Addr} {c1 : Nat} {a2 : Option Addr} {c2 : Nat} {a3 : Option Addr} {c3 : Nat} {P Q : Nat} {G A S : Nat → Int} {z : World} (h : PaceSt w0 bs PB RB TB p a1 c1 a2 c2 a3 c3 P Q G A S z) (hbs : w0.heap.size ≤ bs) {g i : Nat} (ha : a1 = some ⟨g, 0, none⟩) (hi : i < p.tn) {v : Int} {G' : Nat → Int} (hG : G' = fun q => if q = i then v else G q) : PaceSt w0 bs PB RB TB p a1 c1 a2 c2 a3 c3 P Q G' A S (z.drew.setCell ⟨g, i, none⟩ (.int .i64 v)) :=
  (h.below (Below.refl _ _).drew).put hbs ha hi hG

set_option maxHeartbeats 16000000 in
set_option maxRecDepth 100000 in
theorem rPaced_any (p : PlanX) (T A S : Nat → Int) (wa : Option Addr) (m wc : Nat) (X : Nat → Int) (a : Option Addr) (n c : Nat) (F : Nat → Int) (la : Option Addr) (ln lc : Nat) (L : Nat → Int) (b : Int) (hn : p.tn ≤ 40) (ha : p.an ≤ 40) (hs : p.sn ≤ 40) (hbA : ∀ j, j < p.an * 2 → A j ≤ 9223372036854775807) (hbS : ∀ j, j < p.sn * 4 → S j ≤ 9223372036854775807) (hm : m ≤ 40) (hwn : n ≤ 20) (hl : ln ≤ 10) (w : World) (h : PlanAt w p T A S) (hX : NumsAt w wa m X) (hF : NumsAt w a n F) (hL : NumsAt w la (ln * 2) L) :
    Calls Try.prog 9 #[planV p, .slice wa m wc, wheelsV a n c, .slice la ln lc, .int .i64 b] w (PacedOut p (Pure.paceG T X (Pure.ratN n F ln L) (Pure.ratD n F ln L) b m) A S (Pure.paceC p T A S m X n F ln L b) w) := by
  obtain ⟨W, hW⟩ : ∃ W, ((w.alloc (planB p)).alloc (wheelsB a n c)).alloc (planB noPlan) = W := ⟨_, rfl⟩
  have HB : Hid (Below w.heap.size w W) := Lib.hid (by rw [← hW]; exact ((below_new _ _).alloc (by simp) _).alloc (by simp; omega) _)
  have HX : Hid (W.heap[w.heap.size]? = some (planB p)) := Lib.hid (by rw [← hW]; exact heap_up (heap_up (heap_top _ _ rfl) _) _)
  have HY : Hid (W.heap[w.heap.size + 1]? = some (wheelsB a n c)) := Lib.hid (by rw [← hW]; exact heap_up (heap_top _ _ (by simp)) _)
  have HT : Hid (W.heap[w.heap.size + 1 + 1]? = some (planB noPlan)) := Lib.hid (by rw [← hW]; exact heap_top _ _ (by simp))
  have HP : Hid (PlanAt W p T A S) := Lib.hid (h.below HB.out)
  have HXX := Lib.hid (hX.below HB.out)
  have HFF := Lib.hid (hF.below HB.out)
  have HLL := Lib.hid (hL.below HB.out)
  have HX0 := Lib.hid hX
  have HT0 := Lib.hid h.t
  have HG0 := Lib.hid (And.intro hbA hbS)
  clear h hX hF hL hbA hbS
  obtain ⟨code, hcode⟩ : ∃ z, Pure.paceC p T A S m X n F ln L b = z := ⟨_, rfl⟩
  obtain ⟨P, hP⟩ : ∃ z, Pure.ratN n F ln L = z := ⟨_, rfl⟩
  obtain ⟨Q, hQ⟩ : ∃ z, Pure.ratD n F ln L = z := ⟨_, rfl⟩
  rw [hcode, hP, hQ]
  have HCD := Lib.hid hcode
  have HPQ := Lib.hid (And.intro hP hQ)
  clear hcode hP hQ
  obtain ⟨r, hr⟩ : ∃ r, Pure.plan p T A S = r := ⟨_, rfl⟩
  have HR := Lib.hid hr
  clear hr
  have x0 := heap_cell HX.out (j := 0) rfl
  have x1 := heap_cell HX.out (j := 1) rfl
  have x2 := heap_cell HX.out (j := 2) rfl
  have x3 := heap_cell HX.out (j := 3) rfl
  have x4 := heap_cell HX.out (j := 4) rfl
  have x5 := heap_cell HX.out (j := 5) rfl
  have x6 := heap_cell HX.out (j := 6) rfl
  go_enter Try.func9, Try.ntmps9
  go_upto_region 1 with fail
  try rw [hW]
  clear hW
  go_wp2_with fail
  refine (rCheckPlan_any p T A S hn ha hs HG0.out.1 HG0.out.2 _ HP.out).mono ?_
  rintro e W1 ⟨rfl, hb⟩
  rw [HR.out]
  clear x0 x1 x2 x3 x4 x5 x6
  have HX1 := Lib.hid (heap_lft HX.out hb)
  have HY1 := Lib.hid (heap_lft HY.out hb)
  have HT1 := Lib.hid (heap_lft HT.out hb)
  have HP1 := Lib.hid (HP.out.below hb)
  have HXX1 := Lib.hid (HXX.out.below hb)
  have HFF1 := Lib.hid (HFF.out.below hb)
  have HLL1 := Lib.hid (HLL.out.below hb)
  have HB1 := Lib.hid (below_thn HB.out hb)
  clear hb
  cases r
  · obtain rfl : code = 40 := by rw [← HCD.out, Pure.paceC, if_neg (by rw [HR.out]; decide)]
    have e1 : (Pure.err false 40 != 0) = true := rfl
    have e2 : Pure.err false 40 = 40 := rfl
    have t0 := heap_cell HT1.out (j := 0) rfl
    have t1 := heap_cell HT1.out (j := 1) rfl
    have t2 := heap_cell HT1.out (j := 2) rfl
    have t3 := heap_cell HT1.out (j := 3) rfl
    have t4 := heap_cell HT1.out (j := 4) rfl
    have t5 := heap_cell HT1.out (j := 5) rfl
    have t6 := heap_cell HT1.out (j := 6) rfl
    have f0 := heap_frozen HT1.out 0
    have f1 := heap_frozen HT1.out 1
    have f2 := heap_frozen HT1.out 2
    have f3 := heap_frozen HT1.out 3
    have f4 := heap_frozen HT1.out 4
    have f5 := heap_frozen HT1.out 5
    have f6 := heap_frozen HT1.out 6
    go_wp2_with fail
    refine bodyPost_ret (v := .tuple #[planV noPlan, .int .i64 40]) (by simp [results, Try.results9, go_sem, t0, t1, t2, t3, t4, t5, t6]; try rfl) rfl ⟨noPlan, rfl, .inr ⟨by decide, rfl⟩, ?_⟩
    repeat (first | with_reducible exact HB1.out | with_reducible refine Below.setCell ?_ (by first | (simp; done) | (dsimp only; omega)) _)
  · have e1 : (Pure.err true 40 != 0) = false := rfl
    have y0 := heap_cell HY1.out (j := 0) rfl
    have hge := rRatioTop_any a n c F la ln lc L hwn hl W1 HFF1.out HLL1.out
    unfold TopOut at hge
    obtain ⟨c1, hc1⟩ : ∃ z, Pure.gearC n F ln L = z := ⟨_, rfl⟩
    rw [hc1, HPQ.out.1, HPQ.out.2] at hge
    have HC1 := Lib.hid hc1
    have HGE := Lib.hid hge
    clear hc1 hge
    go_wp2_with fail
    refine HGE.out.mono ?_
    rintro e W2 ⟨rfl, hb⟩
    have HX2 := Lib.hid (heap_lft HX1.out hb)
    have HT2 := Lib.hid (heap_lft HT1.out hb)
    have HP2 := Lib.hid (HP1.out.below hb)
    have HXX2 := Lib.hid (HXX1.out.below hb)
    have HB2 := Lib.hid (below_thn HB1.out hb)
    clear hb y0 e1
    go_upto_region 5 with fail
    obtain ⟨W6, h6⟩ : ∃ x, W2.alloc (partB (P : Int) (Q : Int)) = x := ⟨_, rfl⟩
    have hb : Below W2.heap.size W2 W6 := by rw [← h6]; exact below_new _ _
    have HRB : Hid (W6.heap[W2.heap.size]? = some (partB (P : Int) (Q : Int))) := Lib.hid (by rw [← h6]; exact heap_top _ _ rfl)
    have HX6 := Lib.hid (heap_lft HX2.out hb)
    have HT6 := Lib.hid (heap_lft HT2.out hb)
    have HP6 := Lib.hid (HP2.out.below hb)
    have HXX6 := Lib.hid (HXX2.out.below hb)
    have HB6 := Lib.hid (below_thn HB2.out hb)
    try rw [h6]
    clear h6 hb
    by_cases h0 : c1 = 0
    rotate_left
    · have hne : (c1 != 0) = true := by simp [h0]
      obtain rfl : code = c1 := by rw [← HCD.out, Pure.paceC, if_pos HR.out, HC1.out, if_neg h0]
      have HNE := Lib.hid h0
      clear h0
      have t0 := heap_cell HT6.out (j := 0) rfl
      have t1 := heap_cell HT6.out (j := 1) rfl
      have t2 := heap_cell HT6.out (j := 2) rfl
      have t3 := heap_cell HT6.out (j := 3) rfl
      have t4 := heap_cell HT6.out (j := 4) rfl
      have t5 := heap_cell HT6.out (j := 5) rfl
      have t6 := heap_cell HT6.out (j := 6) rfl
      have f0 := heap_frozen HT6.out 0
      have f1 := heap_frozen HT6.out 1
      have f2 := heap_frozen HT6.out 2
      have f3 := heap_frozen HT6.out 3
      have f4 := heap_frozen HT6.out 4
      have f5 := heap_frozen HT6.out 5
      have f6 := heap_frozen HT6.out 6
      go_wp2_with fail
      refine bodyPost_ret (v := .tuple #[planV noPlan, .int .i64 code]) (by simp [results, Try.results9, go_sem, t0, t1, t2, t3, t4, t5, t6]; try rfl) rfl ⟨noPlan, rfl, .inr ⟨HNE.out, rfl⟩, ?_⟩
      repeat (first | with_reducible exact HB6.out | with_reducible refine Below.setCell ?_ (by first | (simp; done) | (dsimp only; omega)) _)
    · subst h0
      obtain ⟨hg1, hg2⟩ := Pure.gearC_zero HC1.out
      have HG := Lib.hid (gears_of hg1 hg2).1
      clear hg1 hg2 HGE
      obtain ⟨wb, hwb⟩ : ∃ z, Pure.waterB p.tn m X b = z := ⟨_, rfl⟩
      have HWA := Lib.hid hwb
      have hcw := rWater_any p wa m wc X b hn hm W6 HXX6.out
      rw [hwb] at hcw
      have HCW := Lib.hid hcw
      clear hwb hcw
      have x0 := heap_cell HX6.out (j := 0) rfl
      have x1 := heap_cell HX6.out (j := 1) rfl
      have x2 := heap_cell HX6.out (j := 2) rfl
      have x3 := heap_cell HX6.out (j := 3) rfl
      have x4 := heap_cell HX6.out (j := 4) rfl
      have x5 := heap_cell HX6.out (j := 5) rfl
      have x6 := heap_cell HX6.out (j := 6) rfl
      go_wp2_with fail
      refine HCW.out.mono ?_
      rintro e W5 ⟨rfl, hb⟩
      have HX5 := Lib.hid (heap_lft HX6.out hb)
      have HT5 := Lib.hid (heap_lft HT6.out hb)
      have HP5 := Lib.hid (HP6.out.below hb)
      have HXX5 := Lib.hid (HXX6.out.below hb)
      have HRB5 := Lib.hid (heap_lft HRB.out hb)
      have HB5 := Lib.hid (below_thn HB6.out hb)
      clear hb x0 x1 x2 x3 x4 x5 x6
      cases wb
      · obtain rfl : code = 2 := by rw [← HCD.out, Pure.paceC, if_pos HR.out, if_pos HC1.out, HWA.out]; rfl
        have t0 := heap_cell HT5.out (j := 0) rfl
        have t1 := heap_cell HT5.out (j := 1) rfl
        have t2 := heap_cell HT5.out (j := 2) rfl
        have t3 := heap_cell HT5.out (j := 3) rfl
        have t4 := heap_cell HT5.out (j := 4) rfl
        have t5 := heap_cell HT5.out (j := 5) rfl
        have t6 := heap_cell HT5.out (j := 6) rfl
        have f0 := heap_frozen HT5.out 0
        have f1 := heap_frozen HT5.out 1
        have f2 := heap_frozen HT5.out 2
        have f3 := heap_frozen HT5.out 3
        have f4 := heap_frozen HT5.out 4
        have f5 := heap_frozen HT5.out 5
        have f6 := heap_frozen HT5.out 6
        go_wp2_with fail
        refine bodyPost_ret (v := .tuple #[planV noPlan, .int .i64 2]) (by simp [results, Try.results9, go_sem, t0, t1, t2, t3, t4, t5, t6]; try rfl) rfl ⟨noPlan, rfl, .inr ⟨by decide, rfl⟩, ?_⟩
        repeat (first | with_reducible exact HB5.out | with_reducible refine Below.setCell ?_ (by first | (simp; done) | (dsimp only; omega)) _)
      · obtain rfl : code = 0 := by rw [← HCD.out, Pure.paceC, if_pos HR.out, if_pos HC1.out, HWA.out]; rfl
        have HWB := Lib.hid (Pure.waterB_iff.1 HWA.out)
        have hPQ : P ≤ 2000000 ∧ 1 ≤ Q := by
          have h1 := HG.out.nm ln (Nat.le_refl _)
          have h2 := HG.out.l
          have h3 : 120 ^ ln ≤ 120 ^ 3 := Nat.pow_le_pow_right (by decide) h2
          have e1 : P = Pure.lowN (Pure.nm F L ln) (Pure.dn F L ln) := by rw [← HPQ.out.1, Pure.ratN, if_pos HC1.out]
          have e2 : Q = Pure.lowD (Pure.nm F L ln) (Pure.dn F L ln) := by rw [← HPQ.out.2, Pure.ratD, if_pos HC1.out]
          refine ⟨?_, by rw [e2]; exact Pure.lowD_pos h1.2.1⟩
          rw [e1]
          exact Nat.le_trans (Nat.div_le_self _ _) (Nat.le_trans h1.1.2 (Nat.le_trans h3 (by decide)))
        have HBQ := Lib.hid hPQ
        clear hPQ
        have x0 := heap_cell HX5.out (j := 0) rfl
        have x1 := heap_cell HX5.out (j := 1) rfl
        have x2 := heap_cell HX5.out (j := 2) rfl
        have x3 := heap_cell HX5.out (j := 3) rfl
        have x4 := heap_cell HX5.out (j := 4) rfl
        have x5 := heap_cell HX5.out (j := 5) rfl
        have x6 := heap_cell HX5.out (j := 6) rfl
        go_wp2_with fail
        refine (twin_any p T A S hn ha hs _ HP5.out).mono ?_
        rintro e W7 ⟨a1, k1, a2, k2, a3, k3, rfl, ho, hb⟩
        have HO7 := Lib.hid ho
        have HRB7 := Lib.hid (heap_lft HRB5.out hb)
        have HX7 := Lib.hid (heap_lft HX5.out hb)
        have HT7 := Lib.hid (heap_lft HT5.out hb)
        have HXX7 := Lib.hid (HXX5.out.below hb)
        have HB7 := Lib.hid (below_thn HB5.out hb)
        clear ho hb x0 x1 x2 x3 x4 x5 x6
        go_upto_region 10 with fail
        obtain ⟨W8, h8⟩ : ∃ x, W7.alloc (planB (p.moved a1 k1 a2 k2 a3 k3)) = x := ⟨_, rfl⟩
        have hb : Below W7.heap.size W7 W8 := by rw [← h8]; exact below_new _ _
        have HPB : Hid (W8.heap[W7.heap.size]? = some (planB (p.moved a1 k1 a2 k2 a3 k3))) := Lib.hid (by rw [← h8]; exact heap_top _ _ rfl)
        have HST : Hid (PaceSt w W5.heap.size W7.heap.size W2.heap.size (w.heap.size + 1 + 1) p a1 k1 a2 k2 a3 k3 P Q (Pure.paceG T X P Q b 0) A S W8) := Lib.hid ⟨HPB.out, heap_lft HRB7.out hb, heap_lft HT7.out hb, by rw [Pure.paceG_zero]; exact HO7.out.t.below hb, HO7.out.a.below hb, HO7.out.s.below hb, below_thn HB7.out hb⟩
        have HX8 := Lib.hid (heap_lft HX7.out hb)
        have HBS : Hid (w.heap.size + 1 + 1 < W5.heap.size) := Lib.hid (Array.getElem?_eq_some_iff.1 HT5.out).1
        try rw [h8]
        clear h8 hb
        go_wp2_with fail
        go_loopw [16] (fun i wr => ∃ k : Nat, k ≤ m ∧ i = .int .i64 k ∧ PaceSt w W5.heap.size W7.heap.size W2.heap.size (w.heap.size + 1 + 1) p a1 k1 a2 k2 a3 k3 P Q (Pure.paceG T X P Q b k) A S wr ∧ wr.heap[w.heap.size]? = some (planB p)) (fun i _ => m - (intOf i).toNat)
        case atStart => exact ⟨0, Nat.zero_le _, rfl, HST.out, HX8.out⟩
        case round =>
          obtain ⟨k, hk, rfl, hst, hxk⟩ := hrel
          have HSk := Lib.hid hst
          have HXk := Lib.hid (HX0.out.below hst.b)
          have HTk := Lib.hid (HT0.out.below hst.b)
          have HBX := Lib.hid hxk
          clear hst hxk
          by_cases hk1 : k < m
          · obtain ⟨b', off', rfl, -⟩ := HXk.out k hk1
            have n1 : (k : Int) < m := by omega
            have d0 := HXk.out.at hk1
            have hkt : k < p.tn := by have := HWB.out.1; omega
            obtain ⟨g, arr, hg, -, hga⟩ := HSk.out.t.cellsAt (by omega)
            obtain ⟨bt, ot, hta, -⟩ := HTk.out k hkt
            have d1 : wr.cell? ⟨bt, ot + k, none⟩ = some (.int .i64 (T k)) := by
              have := HTk.out
              rw [hta] at this
              exact this.at hkt
            obtain ⟨xk, hxk⟩ : ∃ z, X k = z := ⟨_, rfl⟩
            obtain ⟨tk, htk⟩ : ∃ z, T k = z := ⟨_, rfl⟩
            rw [hxk] at d0
            rw [htk] at d1
            have hwk := HWB.out.2.1 k hk1
            rw [hxk] at hwk
            obtain ⟨f1, f2, f3, f4, f5, _, _⟩ := Pure.turn_facts hwk HBQ.out.1 HBQ.out.2 HWB.out.2.2.1
            obtain ⟨tv, htv⟩ : ∃ z, Pure.turnV xk P Q b = z := ⟨_, rfl⟩
            have HV : Hid (Pure.turnV (X k) P Q b = tv ∧ T k = tk) := Lib.hid ⟨by rw [hxk]; exact htv, htk⟩
            rw [htv] at f5
            unfold Pure.turnV at htv
            obtain ⟨s2, hs2⟩ : ∃ z, Int.tdiv (xk * (P : Int)) (Q : Int) = z := ⟨_, rfl⟩
            rw [hs2] at htv f4
            obtain ⟨s1, hs1⟩ : ∃ z, xk * (P : Int) = z := ⟨_, rfl⟩
            rw [hs1] at f1 hs2
            have HG9 := Lib.hid (And.intro hg hkt)
            have hkt2 : (k : Int) < (p.tn : Int) := by omega
            have p1 : wr.cell? ⟨W7.heap.size, 1, none⟩ = some (.slice a1 p.tn k1) := heap_cell HSk.out.pb (j := 1) rfl
            have q1 : wr.cell? ⟨w.heap.size, 1, none⟩ = some (.slice p.ta p.tn p.tc) := heap_cell HBX.out (j := 1) rfl
            have r0 := heap_cell HSk.out.rb (j := 0) rfl
            have r1 := heap_cell HSk.out.rb (j := 1) rfl
            have fz := heap_frozen hga k
            obtain ⟨ov, hov⟩ : ∃ v, wr.cell? ⟨g, k, none⟩ = some v := by
              have h1 := HSk.out.t.nums
              rw [hg] at h1
              have h2 := h1.at (j := k) (by omega)
              exact ⟨_, by simpa using h2⟩
            subst hg
            rw [hta] at q1
            clear hwk hxk htk hkt hga hta
            go_upto_region 13 with fail
            go_region
            all_goals
              go_wp2_with fail
              go_roundw
              case rel => exact ⟨k + 1, by omega, by go_num, HSk.out.drewPut (by have := HBS.out; omega) rfl HG9.out.2 (by rw [Pure.paceG_put, HV.out.1, HV.out.2]), (Below.heap_setCell _ _ _ _ (by have := HBS.out; have h2 := HSk.out.t.lt _ rfl; dsimp only at h2 ⊢; omega)).trans HBX.out⟩
              case measure => simp [intOf]; omega
          · obtain rfl : k = m := by omega
            have x0 := heap_cell HSk.out.pb (j := 0) rfl
            have x1 := heap_cell HSk.out.pb (j := 1) rfl
            have x2 := heap_cell HSk.out.pb (j := 2) rfl
            have x3 := heap_cell HSk.out.pb (j := 3) rfl
            have x4 := heap_cell HSk.out.pb (j := 4) rfl
            have x5 := heap_cell HSk.out.pb (j := 5) rfl
            have x6 := heap_cell HSk.out.pb (j := 6) rfl
            have t0 := heap_cell HSk.out.tb (j := 0) rfl
            have t1 := heap_cell HSk.out.tb (j := 1) rfl
            have t2 := heap_cell HSk.out.tb (j := 2) rfl
            have t3 := heap_cell HSk.out.tb (j := 3) rfl
            have t4 := heap_cell HSk.out.tb (j := 4) rfl
            have t5 := heap_cell HSk.out.tb (j := 5) rfl
            have t6 := heap_cell HSk.out.tb (j := 6) rfl
            have f0 := heap_frozen HSk.out.tb 0
            have f1 := heap_frozen HSk.out.tb 1
            have f2 := heap_frozen HSk.out.tb 2
            have f3 := heap_frozen HSk.out.tb 3
            have f4 := heap_frozen HSk.out.tb 4
            have f5 := heap_frozen HSk.out.tb 5
            have f6 := heap_frozen HSk.out.tb 6
            have HBk : Hid (Below w.heap.size w wr) := Lib.hid HSk.out.b
            go_wp2_with fail
            refine bodyPost_ret (v := .tuple #[planV (p.moved a1 k1 a2 k2 a3 k3), .int .i64 0]) (by simp [results, Try.results9, go_sem, t0, t1, t2, t3, t4, t5, t6]; try rfl) rfl ⟨p.moved a1 k1 a2 k2 a3 k3, rfl, .inl ⟨rfl, a1, k1, a2, k2, a3, k3, rfl, ?_⟩, ?_⟩
            · have hbs := HBS.out
              refine ⟨OwnNums.base (base := W5.heap.size) ?_ (by omega), OwnNums.base (base := W5.heap.size) ?_ (by omega), OwnNums.base (base := W5.heap.size) ?_ (by omega)⟩
              · repeat (first | with_reducible exact HSk.out.t | with_reducible refine OwnNums.set ?_ (by dsimp only; omega) _)
              · repeat (first | with_reducible exact HSk.out.a | with_reducible refine OwnNums.set ?_ (by dsimp only; omega) _)
              · repeat (first | with_reducible exact HSk.out.s | with_reducible refine OwnNums.set ?_ (by dsimp only; omega) _)
            · repeat (first | with_reducible exact HBk.out | with_reducible refine Below.setCell ?_ (by first | (simp; done) | (dsimp only; omega)) _)

end Go.Proofs.Ytacdbjandcdejaa
