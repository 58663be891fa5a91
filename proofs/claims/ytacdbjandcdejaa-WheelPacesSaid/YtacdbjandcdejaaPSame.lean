/-
  The contracts of the specification's SameInts and Same, of plans that are the same.
-/
import Derived.Test.YtacdbjandcdejaaPTwin
namespace Go.Proofs.Ytacdbjandcdejaa
open Go.RowKit

set_option maxHeartbeats 1000000 in
set_option maxRecDepth 100000 in
theorem sameInts_any (a a' : Option Addr) (len cap cap' : Nat) (F : Nat → Int) (hl : len ≤ 1000) (w : World) (h : NumsAt w a len F) (h' : NumsAt w a' len F) :
    Calls Try.prog 11 #[.slice a len cap, .slice a' len cap'] w fun e w' => e = .returned (.bool true) ∧ Below w.heap.size w w' := by
  have HA := Lib.hid h
  have HA' := Lib.hid h'
  clear h h'
  go_enter Try.func11, Try.ntmps11
  go_wp2_with fail
  go_loopw [5] (fun i wr => ∃ k : Nat, k ≤ len ∧ i = .int .i64 k ∧ Below w.heap.size w wr) (fun i _ => len - (intOf i).toNat)
  case atStart => exact ⟨0, Nat.zero_le _, rfl, Below.refl _ _⟩
  case round =>
    obtain ⟨k, hk, rfl, hB⟩ := hrel
    by_cases hlt : k < len
    · obtain ⟨b, off, rfl, g0⟩ := HA.out k hlt
      obtain ⟨b', off', rfl, g1⟩ := HA'.out k hlt
      have e0 := below_cell hB g0
      have e1 := below_cell hB g1
      have hk2 : (k : Int) < len := by omega
      have x0 := among_below e0
      have x1 := among_below e1
      have HB := Lib.hid hB
      have HSt : Hid (Below wr.heap.size wr wr.drew) := Lib.hid (Below.refl _ _).drew
      have hne : Nonempty (Among (Below wr.heap.size wr)) := ⟨⟨_, HSt.out⟩⟩
      clear hB g0 g1 e0 e1
      go_wp2_with fail
      refine wp_region_class (Below wr.heap.size wr) (by kernel_rfl) (by kernel_rfl) HSt.out ?_
      repeat (go_big_quiet_step (fail))
      refine wpQuiet_nil ?_
      intro w3 hx
      have HB3 : Hid (Below w.heap.size w w3) := Lib.hid (below_thn HB.out (among_out hx))
      clear hx hne x0 x1
      go_wp2_with fail
      go_roundw
      case rel => exact ⟨k + 1, by omega, by go_num, HB3.out⟩
      case measure => simp [intOf]; omega
    · obtain rfl : k = len := by omega
      go_wp2_with fail
      go_ret
      exact ⟨rfl, hB⟩

set_option maxHeartbeats 4000000 in
set_option maxRecDepth 100000 in
theorem same_true (p : PlanX) (a1 : Option Addr) (c1 : Nat) (a2 : Option Addr) (c2 : Nat) (a3 : Option Addr) (c3 : Nat) (T A S : Nat → Int) (hn : p.tn ≤ 40) (ha : p.an ≤ 40) (hs : p.sn ≤ 40) (w : World) (h : PlanAt w p T A S) (h' : PlanAt w (p.moved a1 c1 a2 c2 a3 c3) T A S) :
    Calls Try.prog 10 #[planV p, planV (p.moved a1 c1 a2 c2 a3 c3)] w fun e w' => e = .returned (.bool true) ∧ Below w.heap.size w w' := by
  obtain ⟨fr, ta, tn, tc, sd, ck, aa, an, ac, sa, sn, sc, bu⟩ := p
  simp only [PlanX.moved] at hn ha hs h' ⊢
  obtain ⟨W, hW⟩ : ∃ W, (w.alloc (planB ⟨fr, ta, tn, tc, sd, ck, aa, an, ac, sa, sn, sc, bu⟩)).alloc (planB ⟨fr, a1, tn, c1, sd, ck, a2, an, c2, a3, sn, c3, bu⟩) = W := ⟨_, rfl⟩
  have HB0 : Hid (Below w.heap.size w W) := Lib.hid (by rw [← hW]; exact (below_new _ _).alloc (by simp) _)
  have HX0 : Hid (W.heap[w.heap.size]? = some (planB ⟨fr, ta, tn, tc, sd, ck, aa, an, ac, sa, sn, sc, bu⟩)) := Lib.hid (by rw [← hW]; exact heap_up (heap_top _ _ rfl) _)
  have HY0 : Hid (W.heap[w.heap.size + 1]? = some (planB ⟨fr, a1, tn, c1, sd, ck, a2, an, c2, a3, sn, c3, bu⟩)) := Lib.hid (by rw [← hW]; exact heap_top _ _ (by simp))
  have HP := Lib.hid (h.below HB0.out)
  have HQ := Lib.hid (h'.below HB0.out)
  clear h h'
  have x0 := heap_cell HX0.out (j := 0) rfl
  have y0 := heap_cell HY0.out (j := 0) rfl
  have x1 := heap_cell HX0.out (j := 1) rfl
  have y1 := heap_cell HY0.out (j := 1) rfl
  have x2 := heap_cell HX0.out (j := 2) rfl
  have y2 := heap_cell HY0.out (j := 2) rfl
  have x3 := heap_cell HX0.out (j := 3) rfl
  have y3 := heap_cell HY0.out (j := 3) rfl
  have x4 := heap_cell HX0.out (j := 4) rfl
  have y4 := heap_cell HY0.out (j := 4) rfl
  have x5 := heap_cell HX0.out (j := 5) rfl
  have y5 := heap_cell HY0.out (j := 5) rfl
  have x6 := heap_cell HX0.out (j := 6) rfl
  have y6 := heap_cell HY0.out (j := 6) rfl
  go_enter Try.func10, Try.ntmps10
  go_upto_region 1 with fail
  try rw [hW]
  clear hW
  go_wp2_with fail
  refine (sameInts_any ta a1 tn tc c1 T (by omega) _ HP.out.t HQ.out.t).mono ?_
  rintro e W1 ⟨rfl, hb⟩
  have HX1 := Lib.hid (heap_lft HX0.out hb)
  have HY1 := Lib.hid (heap_lft HY0.out hb)
  have HP1 := Lib.hid (HP.out.below hb)
  have HQ1 := Lib.hid (HQ.out.below hb)
  have HB1 := Lib.hid (below_thn HB0.out hb)
  clear hb x0 y0 x1 y1 x2 y2 x3 y3 x4 y4 x5 y5 x6 y6
  have x0 := heap_cell HX1.out (j := 0) rfl
  have y0 := heap_cell HY1.out (j := 0) rfl
  have x1 := heap_cell HX1.out (j := 1) rfl
  have y1 := heap_cell HY1.out (j := 1) rfl
  have x2 := heap_cell HX1.out (j := 2) rfl
  have y2 := heap_cell HY1.out (j := 2) rfl
  have x3 := heap_cell HX1.out (j := 3) rfl
  have y3 := heap_cell HY1.out (j := 3) rfl
  have x4 := heap_cell HX1.out (j := 4) rfl
  have y4 := heap_cell HY1.out (j := 4) rfl
  have x5 := heap_cell HX1.out (j := 5) rfl
  have y5 := heap_cell HY1.out (j := 5) rfl
  have x6 := heap_cell HX1.out (j := 6) rfl
  have y6 := heap_cell HY1.out (j := 6) rfl
  go_wp2_with fail
  go_loopw [5] (fun i wr => ∃ k : Nat, k ≤ an ∧ i = .int .i64 k ∧ Below W1.heap.size W1 wr) (fun i _ => an - (intOf i).toNat)
  case atStart => exact ⟨0, Nat.zero_le _, rfl, Below.refl _ _⟩
  case round =>
    obtain ⟨k, hk, rfl, hb⟩ := hrel
    have HBa := Lib.hid hb
    have HXa := Lib.hid (heap_lft HX1.out hb)
    have HYa := Lib.hid (heap_lft HY1.out hb)
    have HPP := Lib.hid (HP1.out.a.below hb)
    have HQQ := Lib.hid (HQ1.out.a.below hb)
    clear hb
    by_cases hk1 : k < an
    · obtain ⟨b, off, h9, _⟩ := HPP.out (k * 2) (by simp only; omega)
      obtain ⟨b', off', h8, _⟩ := HQQ.out (k * 2) (by simp only; omega)
      simp only at h9 h8
      subst h9
      subst h8
      have n1 : (k : Int) < an := by omega
      have p0 := HPP.out.at (show k * 2 < an * 2 by omega)
      have p1 := nums_row HPP.out (show k * 2 + 1 < an * 2 by omega)
      have q0 := HQQ.out.at (show k * 2 < an * 2 by omega)
      have q1 := nums_row HQQ.out (show k * 2 + 1 < an * 2 by omega)
      have z0 := heap_cell HXa.out (j := 4) rfl
      have z1 := heap_cell HYa.out (j := 4) rfl
      go_upto_region 6 with fail
      have xx0 := among_below p0
      have xx1 := among_below p1
      have xx2 := among_below q0
      have xx3 := among_below q1
      have xx4 := among_below z0
      have xx5 := among_below z1
      have HSt : Hid (Below wr.heap.size wr wr.drew) := Lib.hid (Below.refl _ _).drew
      have hne : Nonempty (Among (Below wr.heap.size wr)) := ⟨⟨_, HSt.out⟩⟩
      refine wp_region_class (Below wr.heap.size wr) (by kernel_rfl) (by kernel_rfl) HSt.out ?_
      repeat (go_big_quiet_step (fail))
      refine wpQuiet_nil ?_
      intro w8 hx
      have HB8 := Lib.hid (below_thn HBa.out (among_out hx))
      clear hx hne xx0 xx1 xx2 xx3 xx4 xx5 p0 p1 q0 q1 z0 z1
      go_wp2_with fail
      go_roundw
      case rel => exact ⟨k + 1, by omega, by go_num, HB8.out⟩
      case measure => simp [intOf]; omega
    · obtain rfl : k = an := by omega
      have x4 := heap_cell HXa.out (j := 4) rfl
      have y4 := heap_cell HYa.out (j := 4) rfl
      have x5 := heap_cell HXa.out (j := 5) rfl
      have y5 := heap_cell HYa.out (j := 5) rfl
      go_wp2_with fail
      go_loopw [6] (fun i wr => ∃ k : Nat, k ≤ sn ∧ i = .int .i64 k ∧ Below W1.heap.size W1 wr) (fun i _ => sn - (intOf i).toNat)
      case atStart => exact ⟨0, Nat.zero_le _, rfl, HBa.out⟩
      case round =>
        obtain ⟨k, hk, rfl, hb⟩ := hrel
        have HBb := Lib.hid hb
        have HXb := Lib.hid (heap_lft HX1.out hb)
        have HYb := Lib.hid (heap_lft HY1.out hb)
        have HPP := Lib.hid (HP1.out.s.below hb)
        have HQQ := Lib.hid (HQ1.out.s.below hb)
        clear hb
        by_cases hk1 : k < sn
        · obtain ⟨b, off, h9, _⟩ := HPP.out (k * 4) (by simp only; omega)
          obtain ⟨b', off', h8, _⟩ := HQQ.out (k * 4) (by simp only; omega)
          simp only at h9 h8
          subst h9
          subst h8
          have n1 : (k : Int) < sn := by omega
          have p0 := HPP.out.at (show k * 4 < sn * 4 by omega)
          have p1 := nums_row HPP.out (show k * 4 + 1 < sn * 4 by omega)
          have p2 := nums_row HPP.out (show k * 4 + 2 < sn * 4 by omega)
          have p3 := nums_row HPP.out (show k * 4 + 3 < sn * 4 by omega)
          have q0 := HQQ.out.at (show k * 4 < sn * 4 by omega)
          have q1 := nums_row HQQ.out (show k * 4 + 1 < sn * 4 by omega)
          have q2 := nums_row HQQ.out (show k * 4 + 2 < sn * 4 by omega)
          have q3 := nums_row HQQ.out (show k * 4 + 3 < sn * 4 by omega)
          have z0 := heap_cell HXb.out (j := 5) rfl
          have z1 := heap_cell HYb.out (j := 5) rfl
          go_upto_region 11 with fail
          have xx0 := among_below p0
          have xx1 := among_below p1
          have xx2 := among_below p2
          have xx3 := among_below p3
          have xx4 := among_below q0
          have xx5 := among_below q1
          have xx6 := among_below q2
          have xx7 := among_below q3
          have xx8 := among_below z0
          have xx9 := among_below z1
          have HSt : Hid (Below wr.heap.size wr wr.drew) := Lib.hid (Below.refl _ _).drew
          have hne : Nonempty (Among (Below wr.heap.size wr)) := ⟨⟨_, HSt.out⟩⟩
          refine wp_region_class (Below wr.heap.size wr) (by kernel_rfl) (by kernel_rfl) HSt.out ?_
          repeat (go_big_quiet_step (fail))
          refine wpQuiet_nil ?_
          intro w8 hx
          have HB8 := Lib.hid (below_thn HBb.out (among_out hx))
          clear hx hne xx0 xx1 xx2 xx3 xx4 xx5 xx6 xx7 xx8 xx9 p0 p1 p2 p3 q0 q1 q2 q3 z0 z1
          go_wp2_with fail
          go_roundw
          case rel => exact ⟨k + 1, by omega, by go_num, HB8.out⟩
          case measure => simp [intOf]; omega
        · obtain rfl : k = sn := by omega
          have x4 := heap_cell HXb.out (j := 4) rfl
          have y4 := heap_cell HYb.out (j := 4) rfl
          have x5 := heap_cell HXb.out (j := 5) rfl
          have y5 := heap_cell HYb.out (j := 5) rfl
          go_wp2_with fail
          go_ret
          exact ⟨rfl, below_thn HB1.out HBb.out⟩

end Go.Proofs.Ytacdbjandcdejaa
