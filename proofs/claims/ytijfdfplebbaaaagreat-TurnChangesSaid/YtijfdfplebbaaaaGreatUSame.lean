/-
  The contracts of the specification's SameInts, Same and Great at rolls.
-/
import Derived.Test.YtijfdfplebbaaaaGreatURoll
import Derived.Test.YtijfdfplebbaaaaGreatQSame
namespace Go.Proofs.YtijfdfplebbaaaaGreat
open Go.RowKit

set_option maxHeartbeats 1000000 in
set_option maxRecDepth 100000 in
theorem sameNums_any (a a' : Option Addr) (len cap cap' : Nat) (F : Nat → Int) (hl : len ≤ 1000) (w : World) (h : NumsAt w a len F) (h' : NumsAt w a' len F) :
    Calls Tryz.prog 11 #[.slice a len cap, .slice a' len cap'] w fun e w' => e = .returned (.bool true) ∧ Below w.heap.size w w' := by
  have HA := Lib.hid h
  have HA' := Lib.hid h'
  clear h h'
  go_enter Tryz.func11, Tryz.ntmps11
  go_wp2_with fail
  go_loopw [5] (fun i wr => ∃ k : Nat, k ≤ len ∧ i = .int .i64 k ∧ Below w.heap.size w wr) (fun i _ => len - (intOf i).toNat)
  case atStart => exact ⟨0, Nat.zero_le _, rfl, Below.refl _ _⟩
  case round =>
    obtain ⟨k, hk, rfl, hB⟩ := hrel
    by_cases hlt : k < len
    · obtain ⟨b, off, rfl, g0⟩ := HA.out k hlt
      obtain ⟨b', off', rfl, g1⟩ := HA'.out k hlt
      have e0 := below_cell hB g0
      have e1 := below_cell hB g1
      have hk2 : (k : Int) < len := by omega
      have x0 := among_below e0
      have x1 := among_below e1
      have HB := Lib.hid hB
      have HSt : Hid (Below wr.heap.size wr wr.drew) := Lib.hid (Below.refl _ _).drew
      have hne : Nonempty (Among (Below wr.heap.size wr)) := ⟨⟨_, HSt.out⟩⟩
      clear hB g0 g1 e0 e1
      go_wp2_with fail
      refine wp_region_class (Below wr.heap.size wr) (by kernel_rfl) (by kernel_rfl) HSt.out ?_
      repeat (go_big_quiet_step (fail))
      refine wpQuiet_nil ?_
      intro w3 hx
      have HB3 : Hid (Below w.heap.size w w3) := Lib.hid (below_thn HB.out (among_out hx))
      clear hx hne x0 x1
      go_wp2_with fail
      go_roundw
      case rel => exact ⟨k + 1, by omega, by go_num, HB3.out⟩
      case measure => simp [intOf]; omega
    · obtain rfl : k = len := by omega
      go_wp2_with fail
      go_ret
      exact ⟨rfl, hB⟩


theorem rGreat_any (r : RollX) (w : World) : Calls Tryz.prog 4 #[rollV r] w fun e w' => e = .returned (.bool ((decide (20 < (r.pn : Int)) || decide (50 < (r.wn : Int))) || decide (10 < (r.mn : Int)) || decide (10 < (r.sn : Int)) || decide (40 < (r.nn : Int)))) ∧ Below w.heap.size w w' := by
  obtain ⟨W, hW⟩ : ∃ W, w.alloc (rollB r) = W := ⟨_, rfl⟩
  have HB : Hid (Below w.heap.size w W) := Lib.hid (by rw [← hW]; exact below_new _ _)
  have HX : Hid (W.heap[w.heap.size]? = some (rollB r)) := Lib.hid (by rw [← hW]; exact heap_top _ _ rfl)
  obtain ⟨q, hq⟩ : ∃ q, (decide (20 < (r.pn : Int)) || decide (50 < (r.wn : Int))) = q := ⟨_, rfl⟩
  rw [hq]
  have HQ := Lib.hid hq
  clear hq
  have x0 := heap_cell HX.out (j := 0) rfl
  have x1 := heap_cell HX.out (j := 1) rfl
  go_enter Tryz.func4, Tryz.ntmps4
  go_upto_region 1 with fail
  try rw [hW]
  clear hW
  go_wp2_with fail
  refine (great_any r.pa r.pn r.pc r.wa r.wn r.wc _).mono ?_
  rintro e u ⟨rfl, hb⟩
  rw [HQ.out]
  have HB2 := Lib.hid (below_thn HB.out hb)
  have HX2 := Lib.hid (heap_lft HX.out hb)
  clear hb x0 x1
  have x2 := heap_cell HX2.out (j := 2) rfl
  have x3 := heap_cell HX2.out (j := 3) rfl
  have x4 := heap_cell HX2.out (j := 4) rfl
  cases q
  · by_cases h1 : 10 < (r.mn : Int)
    · go_wp2_with fail
      go_ret
      exact ⟨ret_bool (by simp [h1]), HB2.out⟩
    · have g1 : decide (10 < (r.mn : Int)) = false := decide_eq_false (by omega)
      have G1 := Lib.hid g1
      by_cases h2 : 10 < (r.sn : Int)
      · clear g1
        go_wp2_with fail
        go_ret
        exact ⟨ret_bool (by simp [h2]), HB2.out⟩
      · have g2 : decide (10 < (r.sn : Int)) = false := decide_eq_false (by omega)
        have G2 := Lib.hid g2
        clear g1 g2
        go_wp2_with fail
        go_ret
        exact ⟨ret_bool (by rw [G1.out, G2.out]; simp), HB2.out⟩
  · go_wp2_with fail
    go_ret
    exact ⟨rfl, HB2.out⟩

set_option maxHeartbeats 16000000 in
set_option maxRecDepth 100000 in
theorem rSame_any (r r' : RollX) (d : RollD) (hN : RollN r) (h1 : r'.pn = r.pn) (h2 : r'.wn = r.wn) (h3 : r'.mn = r.mn) (h4 : r'.sn = r.sn) (h5 : r'.nn = r.nn) (w : World) (hR : RollAt w r d) (hR' : RollAt w r' d) :
    Calls Tryz.prog 10 #[rollV r, rollV r'] w fun e w' => e = .returned (.bool true) ∧ Below w.heap.size w w' := by
  obtain ⟨hNp, hNw, hNm, hNs, hNn⟩ := hN
  obtain ⟨pa1, pn9, pc1, wa1, wn9, wc1, ma1, mn9, mc1, sa1, sn9, sc1, na1, nn9, nc1⟩ := r
  obtain ⟨pa2, pn, pc2, wa2, wn, wc2, ma2, mn, mc2, sa2, sn, sc2, na2, nn, nc2⟩ := r'
  dsimp only at h1 h2 h3 h4 h5 hNp hNw hNm hNs hNn
  subst h1 h2 h3 h4 h5
  obtain ⟨W, hW⟩ : ∃ W, (w.alloc (rollB ⟨pa1, pn, pc1, wa1, wn, wc1, ma1, mn, mc1, sa1, sn, sc1, na1, nn, nc1⟩)).alloc (rollB ⟨pa2, pn, pc2, wa2, wn, wc2, ma2, mn, mc2, sa2, sn, sc2, na2, nn, nc2⟩) = W := ⟨_, rfl⟩
  have HB0 : Hid (Below w.heap.size w W) := Lib.hid (by rw [← hW]; exact (below_new _ _).alloc (by simp) _)
  have HX0 : Hid (W.heap[w.heap.size]? = some (rollB ⟨pa1, pn, pc1, wa1, wn, wc1, ma1, mn, mc1, sa1, sn, sc1, na1, nn, nc1⟩)) := Lib.hid (by rw [← hW]; exact heap_up (heap_top _ _ rfl) _)
  have HY0 : Hid (W.heap[w.heap.size + 1]? = some (rollB ⟨pa2, pn, pc2, wa2, wn, wc2, ma2, mn, mc2, sa2, sn, sc2, na2, nn, nc2⟩)) := Lib.hid (by rw [← hW]; exact heap_top _ _ (by simp))
  have HR := Lib.hid (hR.below HB0.out)
  have HR' := Lib.hid (hR'.below HB0.out)
  clear hR hR'
  have x0 := heap_cell HX0.out (j := 0) rfl
  have x1 := heap_cell HX0.out (j := 1) rfl
  have y0 := heap_cell HY0.out (j := 0) rfl
  have y1 := heap_cell HY0.out (j := 1) rfl
  go_enter Tryz.func10, Tryz.ntmps10
  go_upto_region 1 with fail
  try rw [hW]
  clear hW
  go_wp2_with fail
  refine (same_true pa1 pn pc1 wa1 wn wc1 pa2 pc2 wa2 wc2 d.P d.W hNp hNw _ HR.out.p HR.out.g HR'.out.p HR'.out.g).mono ?_
  rintro e U ⟨rfl, hb⟩
  have HB1 := Lib.hid (below_thn HB0.out hb)
  have HX1 := Lib.hid (heap_lft HX0.out hb)
  have HY1 := Lib.hid (heap_lft HY0.out hb)
  have HR1 := Lib.hid (HR.out.below hb)
  have HR1' := Lib.hid (HR'.out.below hb)
  clear hb x0 x1 y0 y1 HX0 HY0 HB0 HR HR'
  have x2 := heap_cell HX1.out (j := 2) rfl
  have y2 := heap_cell HY1.out (j := 2) rfl
  go_wp2_with fail
  refine (sameNums_any ma1 ma2 mn mc1 mc2 d.M (by omega) _ HR1.out.m HR1'.out.m).mono ?_
  rintro e V ⟨rfl, hb⟩
  have HB2 := Lib.hid (below_thn HB1.out hb)
  have HX2 := Lib.hid (heap_lft HX1.out hb)
  have HY2 := Lib.hid (heap_lft HY1.out hb)
  have HS2 := Lib.hid (HR1.out.below hb).s
  have HS2' := Lib.hid (HR1'.out.below hb).s
  have HN2 := Lib.hid (HR1.out.below hb).n
  have HN2' := Lib.hid (HR1'.out.below hb).n
  clear hb x2 y2 HX1 HY1 HB1 HR1 HR1'
  have x3 := heap_cell HX2.out (j := 3) rfl
  have y3 := heap_cell HY2.out (j := 3) rfl
  have x4 := heap_cell HX2.out (j := 4) rfl
  have y4 := heap_cell HY2.out (j := 4) rfl
  go_wp2_with fail
  clear x3 y3 x4 y4
  go_loopw [5] (fun i wr => ∃ k : Nat, k ≤ sn ∧ i = .int .i64 k ∧ Below V.heap.size V wr) (fun i _ => sn - (intOf i).toNat)
  case atStart => exact ⟨0, Nat.zero_le _, rfl, Below.refl _ _⟩
  case round =>
    obtain ⟨k, hk, rfl, hb⟩ := hrel
    have HBa := Lib.hid hb
    have HXa := Lib.hid (heap_lft HX2.out hb)
    have HYa := Lib.hid (heap_lft HY2.out hb)
    have HPP := Lib.hid (HS2.out.below hb)
    have HQQ := Lib.hid (HS2'.out.below hb)
    clear hb
    by_cases hk1 : k < sn
    · obtain ⟨g, off, h9, _⟩ := HPP.out (k * 2) (by omega)
      obtain ⟨g', off', h8, _⟩ := HQQ.out (k * 2) (by omega)
      subst h9
      subst h8
      have n1 : (k : Int) < sn := by omega
      have p0 := HPP.out.at (show k * 2 < sn * 2 by omega)
      have p1 := nums_row HPP.out (show k * 2 + 1 < sn * 2 by omega)
      have q0 := HQQ.out.at (show k * 2 < sn * 2 by omega)
      have q1 := nums_row HQQ.out (show k * 2 + 1 < sn * 2 by omega)
      have z0 := heap_cell HXa.out (j := 3) rfl
      have z1 := heap_cell HYa.out (j := 3) rfl
      go_upto_region 6 with fail
      have xx0 := among_below p0
      have xx1 := among_below p1
      have xx2 := among_below q0
      have xx3 := among_below q1
      have xx4 := among_below z0
      have xx5 := among_below z1
      have HSt : Hid (Below wr.heap.size wr wr.drew) := Lib.hid (Below.refl _ _).drew
      have hne : Nonempty (Among (Below wr.heap.size wr)) := ⟨⟨_, HSt.out⟩⟩
      refine wp_region_class (Below wr.heap.size wr) (by kernel_rfl) (by kernel_rfl) HSt.out ?_
      repeat (go_big_quiet_step (fail))
      refine wpQuiet_nil ?_
      intro w8 hx
      have HB8 := Lib.hid (below_thn HBa.out (among_out hx))
      clear hx hne xx0 xx1 xx2 xx3 xx4 xx5 p0 p1 q0 q1 z0 z1
      go_wp2_with fail
      go_roundw
      case rel => exact ⟨k + 1, by omega, by go_num, HB8.out⟩
      case measure => simp [intOf]; omega
    · obtain rfl : sn = k := by omega
      have n1 : ¬ (sn : Int) < sn := by omega
      have x3 := heap_cell HXa.out (j := 3) rfl
      have y3 := heap_cell HYa.out (j := 3) rfl
      have x4 := heap_cell HXa.out (j := 4) rfl
      have y4 := heap_cell HYa.out (j := 4) rfl
      go_wp2_with fail
      clear x3 y3 x4 y4
      go_loopw [6] (fun i wr => ∃ k : Nat, k ≤ nn ∧ i = .int .i64 k ∧ Below V.heap.size V wr) (fun i _ => nn - (intOf i).toNat)
      case atStart => exact ⟨0, Nat.zero_le _, rfl, HBa.out⟩
      case round =>
        obtain ⟨k, hk, rfl, hb⟩ := hrel
        have HBb := Lib.hid hb
        have HXb := Lib.hid (heap_lft HX2.out hb)
        have HYb := Lib.hid (heap_lft HY2.out hb)
        have HPP := Lib.hid (HN2.out.below hb)
        have HQQ := Lib.hid (HN2'.out.below hb)
        clear hb
        by_cases hk1 : k < nn
        · obtain ⟨g, off, h9, p0, p1, p2, p3, p4, p5, p6⟩ := HPP.out k hk1
          obtain ⟨g', off', h8, q0, q1, q2, q3, q4, q5, q6⟩ := HQQ.out k hk1
          subst h9
          subst h8
          have n1 : (k : Int) < nn := by omega
          have z0 := heap_cell HXb.out (j := 4) rfl
          have z1 := heap_cell HYb.out (j := 4) rfl
          go_upto_region 11 with fail
          have xx0 := among_below p0
          have xx1 := among_below p1
          have xx2 := among_below p2
          have xx3 := among_below p3
          have xx4 := among_below p4
          have xx5 := among_below p5
          have xx6 := among_below p6
          have xx7 := among_below q0
          have xx8 := among_below q1
          have xx9 := among_below q2
          have xx10 := among_below q3
          have xx11 := among_below q4
          have xx12 := among_below q5
          have xx13 := among_below q6
          have xx14 := among_below z0
          have xx15 := among_below z1
          have HSt : Hid (Below wr.heap.size wr wr.drew) := Lib.hid (Below.refl _ _).drew
          have hne : Nonempty (Among (Below wr.heap.size wr)) := ⟨⟨_, HSt.out⟩⟩
          refine wp_region_class (Below wr.heap.size wr) (by kernel_rfl) (by kernel_rfl) HSt.out ?_
          repeat (go_big_quiet_step (fail))
          refine wpQuiet_nil ?_
          intro w8 hx
          have HB8 := Lib.hid (below_thn HBb.out (among_out hx))
          clear hx hne xx0 xx1 xx2 xx3 xx4 xx5 xx6 xx7 xx8 xx9 xx10 xx11 xx12 xx13 xx14 xx15 p0 p1 p2 p3 p4 p5 p6 q0 q1 q2 q3 q4 q5 q6 z0 z1
          go_wp2_with fail
          go_roundw
          case rel => exact ⟨k + 1, by omega, by go_num, HB8.out⟩
          case measure => simp [intOf]; omega
        · obtain rfl : nn = k := by omega
          have n1 : ¬ (nn : Int) < nn := by omega
          have x4 := heap_cell HXb.out (j := 4) rfl
          go_wp2_with fail
          go_ret
          exact ⟨rfl, HB2.out.trans (HBb.out.mono HB2.out.size)⟩

end Go.Proofs.YtijfdfplebbaaaaGreat
