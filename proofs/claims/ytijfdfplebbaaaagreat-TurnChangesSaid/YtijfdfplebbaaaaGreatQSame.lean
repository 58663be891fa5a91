/-
  The contracts of the specification's SameInts and Same, of presses that are the same.
-/
import Derived.Test.YtijfdfplebbaaaaGreatQTwin
namespace Go.Proofs.YtijfdfplebbaaaaGreat
open Go.RowKit

set_option maxHeartbeats 4000000 in
set_option maxRecDepth 100000 in
theorem same_true (a : Option Addr) (n c : Nat) (b : Option Addr) (m d : Nat) (a1 : Option Addr) (c1 : Nat) (b1 : Option Addr) (d1 : Nat) (F G : Nat → Int) (hn : n ≤ 60) (hm : m ≤ 60) (w : World) (hF : NumsAt w a (n * 4) F) (hG : NumsAt w b (m * 5) G) (hF1 : NumsAt w a1 (n * 4) F) (hG1 : NumsAt w b1 (m * 5) G) :
    Calls Tryz.prog 26 #[pressV a n c b m d, pressV a1 n c1 b1 m d1] w fun e w' => e = .returned (.bool true) ∧ Below w.heap.size w w' := by
  obtain ⟨W, hW⟩ : ∃ W, (w.alloc (pressB a n c b m d)).alloc (pressB a1 n c1 b1 m d1) = W := ⟨_, rfl⟩
  have HB0 : Hid (Below w.heap.size w W) := Lib.hid (by rw [← hW]; exact (below_new _ _).alloc (by simp) _)
  have HX0 : Hid (W.heap[w.heap.size]? = some (pressB a n c b m d)) := Lib.hid (by rw [← hW]; exact heap_up (heap_top _ _ rfl) _)
  have HY0 : Hid (W.heap[w.heap.size + 1]? = some (pressB a1 n c1 b1 m d1)) := Lib.hid (by rw [← hW]; exact heap_top _ _ (by simp))
  have HF := Lib.hid (hF.below HB0.out)
  have HG := Lib.hid (hG.below HB0.out)
  have HF1 := Lib.hid (hF1.below HB0.out)
  have HG1 := Lib.hid (hG1.below HB0.out)
  clear hF hG hF1 hG1
  have x0 := heap_cell HX0.out (j := 0) rfl
  have x1 := heap_cell HX0.out (j := 1) rfl
  have y0 := heap_cell HY0.out (j := 0) rfl
  have y1 := heap_cell HY0.out (j := 1) rfl
  go_enter Tryz.func26, Tryz.ntmps26
  go_upto_region 1 with fail
  try rw [hW]
  clear hW
  go_wp2_with fail
  clear x0 x1 y0 y1
  go_loopw [5] (fun i wr => ∃ k : Nat, k ≤ n ∧ i = .int .i64 k ∧ Below W.heap.size W wr) (fun i _ => n - (intOf i).toNat)
  case atStart => exact ⟨0, Nat.zero_le _, rfl, Below.refl _ _⟩
  case round =>
    obtain ⟨k, hk, rfl, hb⟩ := hrel
    have HBa := Lib.hid hb
    have HXa := Lib.hid (heap_lft HX0.out hb)
    have HYa := Lib.hid (heap_lft HY0.out hb)
    have HPP := Lib.hid (HF.out.below hb)
    have HQQ := Lib.hid (HF1.out.below hb)
    clear hb
    by_cases hk1 : k < n
    · obtain ⟨g, off, h9, _⟩ := HPP.out (k * 4) (by omega)
      obtain ⟨g', off', h8, _⟩ := HQQ.out (k * 4) (by omega)
      subst h9
      subst h8
      have n1 : (k : Int) < n := by omega
      have p0 := HPP.out.at (show k * 4 < n * 4 by omega)
      have p1 := nums_row HPP.out (show k * 4 + 1 < n * 4 by omega)
      have p2 := nums_row HPP.out (show k * 4 + 2 < n * 4 by omega)
      have p3 := nums_row HPP.out (show k * 4 + 3 < n * 4 by omega)
      have q0 := HQQ.out.at (show k * 4 < n * 4 by omega)
      have q1 := nums_row HQQ.out (show k * 4 + 1 < n * 4 by omega)
      have q2 := nums_row HQQ.out (show k * 4 + 2 < n * 4 by omega)
      have q3 := nums_row HQQ.out (show k * 4 + 3 < n * 4 by omega)
      have z0 := heap_cell HXa.out (j := 0) rfl
      have z1 := heap_cell HYa.out (j := 0) rfl
      go_upto_region 6 with fail
      have xx0 := among_below p0
      have xx1 := among_below p1
      have xx2 := among_below p2
      have xx3 := among_below p3
      have xx4 := among_below q0
      have xx5 := among_below q1
      have xx6 := among_below q2
      have xx7 := among_below q3
      have xx8 := among_below z0
      have xx9 := among_below z1
      have HSt : Hid (Below wr.heap.size wr wr.drew) := Lib.hid (Below.refl _ _).drew
      have hne : Nonempty (Among (Below wr.heap.size wr)) := ⟨⟨_, HSt.out⟩⟩
      refine wp_region_class (Below wr.heap.size wr) (by kernel_rfl) (by kernel_rfl) HSt.out ?_
      repeat (go_big_quiet_step (fail))
      refine wpQuiet_nil ?_
      intro w8 hx
      have HB8 := Lib.hid (below_thn HBa.out (among_out hx))
      clear hx hne xx0 xx1 xx2 xx3 xx4 xx5 xx6 xx7 xx8 xx9 p0 p1 p2 p3 q0 q1 q2 q3 z0 z1
      go_wp2_with fail
      go_roundw
      case rel => exact ⟨k + 1, by omega, by go_num, HB8.out⟩
      case measure => simp [intOf]; omega
    · obtain rfl : n = k := by omega
      have n1 : ¬ (n : Int) < n := by omega
      have x0 := heap_cell HXa.out (j := 0) rfl
      have y0 := heap_cell HYa.out (j := 0) rfl
      have x1 := heap_cell HXa.out (j := 1) rfl
      have y1 := heap_cell HYa.out (j := 1) rfl
      go_wp2_with fail
      clear x0 x1 y0 y1
      go_loopw [6] (fun i wr => ∃ k : Nat, k ≤ m ∧ i = .int .i64 k ∧ Below W.heap.size W wr) (fun i _ => m - (intOf i).toNat)
      case atStart => exact ⟨0, Nat.zero_le _, rfl, HBa.out⟩
      case round =>
        obtain ⟨k, hk, rfl, hb⟩ := hrel
        have HBb := Lib.hid hb
        have HXb := Lib.hid (heap_lft HX0.out hb)
        have HYb := Lib.hid (heap_lft HY0.out hb)
        have HPP := Lib.hid (HG.out.below hb)
        have HQQ := Lib.hid (HG1.out.below hb)
        clear hb
        by_cases hk1 : k < m
        · obtain ⟨g, off, h9, _⟩ := HPP.out (k * 5) (by omega)
          obtain ⟨g', off', h8, _⟩ := HQQ.out (k * 5) (by omega)
          subst h9
          subst h8
          have n1 : (k : Int) < m := by omega
          have p0 := HPP.out.at (show k * 5 < m * 5 by omega)
          have p1 := nums_row HPP.out (show k * 5 + 1 < m * 5 by omega)
          have p2 := nums_row HPP.out (show k * 5 + 2 < m * 5 by omega)
          have p3 := nums_row HPP.out (show k * 5 + 3 < m * 5 by omega)
          have p4 := nums_row HPP.out (show k * 5 + 4 < m * 5 by omega)
          have q0 := HQQ.out.at (show k * 5 < m * 5 by omega)
          have q1 := nums_row HQQ.out (show k * 5 + 1 < m * 5 by omega)
          have q2 := nums_row HQQ.out (show k * 5 + 2 < m * 5 by omega)
          have q3 := nums_row HQQ.out (show k * 5 + 3 < m * 5 by omega)
          have q4 := nums_row HQQ.out (show k * 5 + 4 < m * 5 by omega)
          have z0 := heap_cell HXb.out (j := 1) rfl
          have z1 := heap_cell HYb.out (j := 1) rfl
          go_upto_region 11 with fail
          have xx0 := among_below p0
          have xx1 := among_below p1
          have xx2 := among_below p2
          have xx3 := among_below p3
          have xx4 := among_below p4
          have xx5 := among_below q0
          have xx6 := among_below q1
          have xx7 := among_below q2
          have xx8 := among_below q3
          have xx9 := among_below q4
          have xx10 := among_below z0
          have xx11 := among_below z1
          have HSt : Hid (Below wr.heap.size wr wr.drew) := Lib.hid (Below.refl _ _).drew
          have hne : Nonempty (Among (Below wr.heap.size wr)) := ⟨⟨_, HSt.out⟩⟩
          refine wp_region_class (Below wr.heap.size wr) (by kernel_rfl) (by kernel_rfl) HSt.out ?_
          repeat (go_big_quiet_step (fail))
          refine wpQuiet_nil ?_
          intro w8 hx
          have HB8 := Lib.hid (below_thn HBb.out (among_out hx))
          clear hx hne xx0 xx1 xx2 xx3 xx4 xx5 xx6 xx7 xx8 xx9 xx10 xx11 p0 p1 p2 p3 p4 q0 q1 q2 q3 q4 z0 z1
          go_wp2_with fail
          go_roundw
          case rel => exact ⟨k + 1, by omega, by go_num, HB8.out⟩
          case measure => simp [intOf]; omega
        · obtain rfl : m = k := by omega
          have n1 : ¬ (m : Int) < m := by omega
          have x0 := heap_cell HXb.out (j := 0) rfl
          have y0 := heap_cell HYb.out (j := 0) rfl
          have x1 := heap_cell HXb.out (j := 1) rfl
          have y1 := heap_cell HYb.out (j := 1) rfl
          go_wp2_with fail
          go_ret
          exact ⟨rfl, below_thn HB0.out HBb.out⟩

end Go.Proofs.YtijfdfplebbaaaaGreat
