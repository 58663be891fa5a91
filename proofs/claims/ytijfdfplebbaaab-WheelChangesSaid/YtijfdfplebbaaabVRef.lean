/-
  The contracts of the specification's within, Shaft, Set, SameInts, and of Same at equal contents.
-/
import Derived.Test.YtijfdfplebbaaabVErr
namespace Go.Proofs.Ytijfdfplebbaaab
open Go.RowKit

namespace Pure
theorem camBad_no {m c u : Int} (hm : 1 ≤ m) : camBad m c u = false ↔ (1 ≤ c ∧ c ≤ m) ∧ m % c = 0 ∧ 1 ≤ u ∧ u ≤ m / c - 1 := by
  unfold camBad
  simp only [Bool.or_eq_false_iff, Bool.not_eq_false', decide_eq_true_eq, decide_eq_false_iff_not]
  constructor
  · rintro ⟨h1, h2, h3⟩
    refine ⟨⟨by omega, ?_⟩, h2, h3⟩
    rcases Int.lt_or_le m c with h | h
    · rw [Int.emod_eq_of_lt (by omega) h] at h2
      omega
    · exact h
  · rintro ⟨h1, h2, h3⟩
    exact ⟨by omega, h2, h3⟩
theorem poundBad_no {p : Int} : poundBad p = false ↔ 1 ≤ p ∧ p ≤ 500 := by
  unfold poundBad
  simp only [Bool.not_eq_false', decide_eq_true_eq]
theorem shaft_iff {m : Int} {n : Nat} {F : Nat → Int} : shaft m n F = true ↔ (1 ≤ m ∧ m ≤ 12) ∧ (n : Int) ≤ 4 ∧ ∀ j, j < n → camBad m (F (j * 3)) (F (j * 3 + 1)) = false ∧ poundBad (F (j * 3 + 2)) = false := by
  unfold shaft marksB camsB poundsB
  simp only [Bool.and_eq_true, decide_eq_true_eq, Bool.not_eq_true', List.any_eq_false, List.mem_range, Bool.not_eq_true]
  constructor
  · rintro ⟨⟨⟨a1, a2⟩, a3⟩, a4⟩
    exact ⟨a1, a2, fun j hj => ⟨a3 j hj, a4 j hj⟩⟩
  · rintro ⟨a1, a2, a3⟩
    exact ⟨⟨⟨a1, a2⟩, fun j hj => (a3 j hj).1⟩, fun j hj => (a3 j hj).2⟩
theorem shaft_no {m : Int} {n : Nat} {F : Nat → Int} (g : ¬ ((1 ≤ m ∧ m ≤ 12) ∧ (n : Int) ≤ 4 ∧ ∀ j, j < n → camBad m (F (j * 3)) (F (j * 3 + 1)) = false ∧ poundBad (F (j * 3 + 2)) = false)) : shaft m n F = false := by
  cases e : shaft m n F with
  | false => rfl
  | true => exact absurd (shaft_iff.1 e) g
/-- What a number of marks, divided by cams, is. -/
theorem quo_facts {m c : Int} (hm : 1 ≤ m ∧ m ≤ 12) (hc : 1 ≤ c) : ¬ c = 0 ∧ Int.tmod m c = m % c ∧ Int.tdiv m c = m / c ∧ IntKind.i64.wrap (m % c) = m % c ∧ IntKind.i64.wrap (m / c) = m / c ∧ IntKind.i64.wrap (m / c - 1) = m / c - 1 ∧ 0 ≤ m / c ∧ m / c ≤ 12 := by
  have hd := ediv_le hm.1 hc
  have he := emod_le hm.1 hc
  exact ⟨by omega, tmod_nn hm.1, tdiv_nn hm.1, IntWalk.i64_in _ (by omega), IntWalk.i64_in _ (by omega), IntWalk.i64_in _ (by omega), by omega, by omega⟩
end Pure

theorem rWithinE (n lo hi : Int) (r : Bool) (hr : decide (lo ≤ n ∧ n ≤ hi) = r) (w : World) : Calls Try.prog 18 #[.int .i64 n, .int .i64 lo, .int .i64 hi] w fun e w' => e = .returned (.bool r) ∧ w = w' := by
  subst hr
  go_enter Try.func18, Try.ntmps18
  by_cases h : lo ≤ n
  · go_wp2_with fail
    go_ret
    exact ⟨ret_bool (by simp [h]), rfl⟩
  · go_wp2_with fail
    go_ret
    exact ⟨ret_bool (by simp; omega), rfl⟩

set_option maxHeartbeats 1000000 in
set_option maxRecDepth 100000 in
theorem sameInts_any (a a' : Option Addr) (len cap cap' : Nat) (F : Nat → Int) (hl : len ≤ 1000) (w : World) (h : NumsAt w a len F) (h' : NumsAt w a' len F) :
    Calls Try.prog 10 #[.slice a len cap, .slice a' len cap'] w fun e w' => e = .returned (.bool true) ∧ Below w.heap.size w w' := by
  have HA := Lib.hid h
  have HA' := Lib.hid h'
  clear h h'
  go_enter Try.func10, Try.ntmps10
  go_wp2_with fail
  go_loopw [5] (fun i wr => ∃ k : Nat, k ≤ len ∧ i = .int .i64 k ∧ Below w.heap.size w wr) (fun i _ => len - (intOf i).toNat)
  case atStart => exact ⟨0, Nat.zero_le _, rfl, Below.refl _ _⟩
  case round =>
    obtain ⟨k, hk, rfl, hB⟩ := hrel
    by_cases hlt : k < len
    · obtain ⟨b, off, rfl, g0⟩ := HA.out k hlt
      obtain ⟨b', off', rfl, g1⟩ := HA'.out k hlt
      have e0 := below_cell hB g0
      have e1 := below_cell hB g1
      have hk2 : (k : Int) < len := by omega
      have x0 := among_below e0
      have x1 := among_below e1
      have HB := Lib.hid hB
      have HSt : Hid (Below wr.heap.size wr wr.drew) := Lib.hid (Below.refl _ _).drew
      have hne : Nonempty (Among (Below wr.heap.size wr)) := ⟨⟨_, HSt.out⟩⟩
      clear hB g0 g1 e0 e1
      go_wp2_with fail
      refine wp_region_class (Below wr.heap.size wr) (by kernel_rfl) (by kernel_rfl) HSt.out ?_
      repeat (go_big_quiet_step (fail))
      refine wpQuiet_nil ?_
      intro w3 hx
      have HB3 : Hid (Below w.heap.size w w3) := Lib.hid (below_thn HB.out (among_out hx))
      clear hx hne x0 x1
      go_wp2_with fail
      go_roundw
      case rel => exact ⟨k + 1, by omega, by go_num, HB3.out⟩
      case measure => simp [intOf]; omega
    · obtain rfl : k = len := by omega
      go_wp2_with fail
      go_ret
      exact ⟨rfl, hB⟩

set_option maxHeartbeats 4000000 in
set_option maxRecDepth 100000 in
theorem same_true (h : Int) (a : Option Addr) (n c : Nat) (a' : Option Addr) (c' : Nat) (F : Nat → Int) (hn : n ≤ 40) (w : World) (hF : NumsAt w a (n * 3) F) (hF' : NumsAt w a' (n * 3) F) :
    Calls Try.prog 11 #[shaftV h a n c, shaftV h a' n c'] w fun e w' => e = .returned (.bool true) ∧ Below w.heap.size w w' := by
  obtain ⟨W, hW⟩ : ∃ W, (w.alloc (shaftB h a n c)).alloc (shaftB h a' n c') = W := ⟨_, rfl⟩
  have HB : Hid (Below w.heap.size w W) := Lib.hid (by rw [← hW]; exact (below_new _ _).alloc (by simp) _)
  have HX : Hid (W.heap[w.heap.size]? = some (shaftB h a n c)) := Lib.hid (by rw [← hW]; exact heap_up (heap_top _ _ rfl) _)
  have HY : Hid (W.heap[w.heap.size + 1]? = some (shaftB h a' n c')) := Lib.hid (by rw [← hW]; exact heap_top _ _ (by simp))
  have HP := Lib.hid (hF.below HB.out)
  have HQ := Lib.hid (hF'.below HB.out)
  clear hF hF'
  have x0 := heap_cell HX.out (j := 0) rfl
  have x1 := heap_cell HX.out (j := 1) rfl
  have y0 := heap_cell HY.out (j := 0) rfl
  have y1 := heap_cell HY.out (j := 1) rfl
  go_enter Try.func11, Try.ntmps11
  go_upto_region 1 with fail
  try rw [hW]
  clear hW
  go_wp2_with fail
  clear x0 x1 y0 y1
  go_loopw [5] (fun i wr => ∃ k : Nat, k ≤ n ∧ i = .int .i64 k ∧ Below W.heap.size W wr) (fun i _ => n - (intOf i).toNat)
  case atStart => exact ⟨0, Nat.zero_le _, rfl, Below.refl _ _⟩
  case round =>
    obtain ⟨k, hk, rfl, hb⟩ := hrel
    have HBa := Lib.hid hb
    have HXa := Lib.hid (heap_lft HX.out hb)
    have HYa := Lib.hid (heap_lft HY.out hb)
    have HPP := Lib.hid (HP.out.below hb)
    have HQQ := Lib.hid (HQ.out.below hb)
    clear hb
    have z0 := heap_cell HXa.out (j := 1) rfl
    have z1 := heap_cell HYa.out (j := 1) rfl
    by_cases hk1 : k < n
    · obtain ⟨b, off, h9, _⟩ := HPP.out (k * 3) (by omega)
      obtain ⟨b', off', h8, _⟩ := HQQ.out (k * 3) (by omega)
      subst h9
      subst h8
      have n1 : (k : Int) < n := by omega
      have p0 := HPP.out.at (show k * 3 < n * 3 by omega)
      have p1 := nums_row HPP.out (show k * 3 + 1 < n * 3 by omega)
      have p2 := nums_row HPP.out (show k * 3 + 2 < n * 3 by omega)
      have q0 := HQQ.out.at (show k * 3 < n * 3 by omega)
      have q1 := nums_row HQQ.out (show k * 3 + 1 < n * 3 by omega)
      have q2 := nums_row HQQ.out (show k * 3 + 2 < n * 3 by omega)
      go_upto_region 6 with fail
      have xx0 := among_below p0
      have xx1 := among_below p1
      have xx2 := among_below p2
      have xx3 := among_below q0
      have xx4 := among_below q1
      have xx5 := among_below q2
      have xx6 := among_below z0
      have xx7 := among_below z1
      have HSt : Hid (Below wr.heap.size wr wr.drew) := Lib.hid (Below.refl _ _).drew
      have hne : Nonempty (Among (Below wr.heap.size wr)) := ⟨⟨_, HSt.out⟩⟩
      refine wp_region_class (Below wr.heap.size wr) (by kernel_rfl) (by kernel_rfl) HSt.out ?_
      repeat (go_big_quiet_step (fail))
      refine wpQuiet_nil ?_
      intro w8 hx
      have HB8 := Lib.hid (below_thn HBa.out (among_out hx))
      clear hx hne xx0 xx1 xx2 xx3 xx4 xx5 xx6 xx7 p0 p1 p2 q0 q1 q2 z0 z1
      go_wp2_with fail
      go_roundw
      case rel => exact ⟨k + 1, by omega, by go_num, HB8.out⟩
      case measure => simp [intOf]; omega
    · obtain rfl : k = n := by omega
      go_wp2_with fail
      go_ret
      exact ⟨rfl, below_thn HB.out HBa.out⟩


set_option maxHeartbeats 16000000 in
set_option maxRecDepth 100000 in
theorem rShaft_any (m : Int) (a : Option Addr) (n cc : Nat) (F : Nat → Int) (hn : n ≤ 40) (w : World) (hF : NumsAt w a (n * 3) F) :
    Calls Try.prog 16 #[shaftV m a n cc] w fun e w' => e = .returned (.bool (Pure.shaft m n F)) ∧ Below w.heap.size w w' := by
  obtain ⟨W, hW⟩ : ∃ W, w.alloc (shaftB m a n cc) = W := ⟨_, rfl⟩
  have HB : Hid (Below w.heap.size w W) := Lib.hid (by rw [← hW]; exact below_new _ _)
  have HX : Hid (W.heap[w.heap.size]? = some (shaftB m a n cc)) := Lib.hid (by rw [← hW]; exact heap_top _ _ rfl)
  have HP := Lib.hid (hF.below HB.out)
  clear hF
  obtain ⟨r1, hr1⟩ : ∃ r, decide (1 ≤ m ∧ m ≤ 12) = r := ⟨_, rfl⟩
  have HR1 := Lib.hid hr1
  clear hr1
  have x0 := heap_cell HX.out (j := 0) rfl
  have x1 := heap_cell HX.out (j := 1) rfl
  go_enter Try.func16, Try.ntmps16
  go_upto_region 1 with fail
  try rw [hW]
  clear hW
  go_wp2_with fail
  refine (rWithinE m 1 12 r1 HR1.out _).mono ?_
  rintro e w' ⟨rfl, rfl⟩
  cases r1
  · go_wp2_with fail
    go_ret
    exact ⟨ret_bool (Pure.shaft_no fun g => by have h1 := of_decide_eq_false HR1.out; exact h1 g.1).symm, HB.out⟩
  · by_cases hm : (n : Int) ≤ 4
    · have HN4 := Lib.hid hm
      have HM := Lib.hid (of_decide_eq_true HR1.out)
      have hm' : ¬ (4 < (n : Int)) := by omega
      clear hm
      go_wp2_with fail
      go_loopw [4, 18] (fun _ i wr => ∃ k : Nat, k ≤ n ∧ i = .int .i64 k ∧ (∀ j, j < k → Pure.camBad m (F (j * 3)) (F (j * 3 + 1)) = false ∧ Pure.poundBad (F (j * 3 + 2)) = false) ∧ Below W.heap.size W wr) (fun _ i _ => n - (intOf i).toNat)
      case atStart => exact ⟨0, Nat.zero_le _, rfl, fun j hj => by omega, Below.refl _ _⟩
      case round =>
        obtain ⟨k, hk, rfl, hq, hb⟩ := hrel
        have HQ := Lib.hid hq
        have HBk := Lib.hid hb
        clear hq hb
        by_cases hk1 : k < n
        · obtain ⟨b, off, rfl, _⟩ := HP.out (k * 3) (by omega)
          have n1 : (k : Int) < n := by omega
          have c0 := (HP.out.below HBk.out).at (show k * 3 < n * 3 by omega)
          have c1 := nums_row (HP.out.below HBk.out) (show k * 3 + 1 < n * 3 by omega)
          have c2 := nums_row (HP.out.below HBk.out) (show k * 3 + 2 < n * 3 by omega)
          obtain ⟨c, hi⟩ : ∃ x, F (k * 3) = x := ⟨_, rfl⟩
          obtain ⟨up, he⟩ : ∃ x, F (k * 3 + 1) = x := ⟨_, rfl⟩
          obtain ⟨pd, hd⟩ : ∃ x, F (k * 3 + 2) = x := ⟨_, rfl⟩
          rw [hi] at c0
          rw [he] at c1
          rw [hd] at c2
          have HV := Lib.hid (And.intro hi (And.intro he hd))
          clear hi he hd
          have hbad : ¬ (Pure.camBad m c up = false ∧ Pure.poundBad pd = false) → Pure.shaft m n F = false := fun g => Pure.shaft_no fun ⟨_, _, g3⟩ => g (by have := g3 k hk1; rw [HV.out.1, HV.out.2.1, HV.out.2.2] at this; exact this)
          have HBAD := Lib.hid hbad
          clear hbad
          obtain ⟨U, hU⟩ : ∃ U, wr.alloc (stampB c up pd) = U := ⟨_, rfl⟩
          have HBU : Hid (Below W.heap.size W U) := Lib.hid (by rw [← hU]; exact below_thn HBk.out (below_new _ _))
          have HXU : Hid (U.heap[wr.heap.size]? = some (stampB c up pd)) := Lib.hid (by rw [← hU]; exact heap_top _ _ rfl)
          go_upto_region 6 with fail
          try rw [hU]
          clear hU c0 c1 c2 x0 x1
          have u0 := heap_cell HXU.out (j := 0) rfl
          have u1 := heap_cell HXU.out (j := 1) rfl
          have u2 := heap_cell HXU.out (j := 2) rfl
          have x0 := heap_cell (heap_lft HX.out HBU.out) (j := 0) rfl
          obtain ⟨s1, hs1⟩ : ∃ r, decide (1 ≤ c ∧ c ≤ m) = r := ⟨_, rfl⟩
          have HS1 := Lib.hid hs1
          clear hs1
          cases s1
          · skip
            have xx0 := among_below u0
            have xx1 := among_below x0
            have HC1 : Hid (∀ xq : Among (Below U.heap.size U), Calls Try.prog 18 #[.int .i64 c, .int .i64 1, .int .i64 m] xq.val fun e w' => e = .returned (.bool false) ∧ ∃ y : Among (Below U.heap.size U), w' = y.val) := Lib.hid (fun xq => calls_class ((rWithinE c 1 m false HS1.out xq.val).mono fun e w' h => ⟨h.1, h.2 ▸ xq.ok⟩))
            have HSt : Hid (Below U.heap.size U U.drew) := Lib.hid (Below.refl _ _).drew
            have hne : Nonempty (Among (Below U.heap.size U)) := ⟨⟨_, HSt.out⟩⟩
            refine wp_region_class (Below U.heap.size U) (by kernel_rfl) (by kernel_rfl) HSt.out ?_
            repeat (go_big_quiet_step ((go_at_call 18; first | with_reducible exact HC1.out _)))
            refine wpQuiet_nil ?_
            intro w8 hx
            have HB8 := Lib.hid (among_out hx)
            clear hx hne xx0 xx1
            go_wp2_with fail
            go_ret
            exact ⟨ret_bool (HBAD.out fun g => by have h1 := of_decide_eq_false HS1.out; have h2 := (Pure.camBad_no HM.out.1).1 g.1; omega).symm, below_thn HB.out (below_thn HBU.out HB8.out)⟩
          · obtain ⟨hc0, hmo, hdi, hwm, hwd, hw1, hdv0, hdv1⟩ := Pure.quo_facts HM.out (of_decide_eq_true HS1.out).1
            obtain ⟨md, hmdE⟩ : ∃ z, m % c = z := ⟨_, rfl⟩
            obtain ⟨dv, hdvE⟩ : ∃ z, m / c = z := ⟨_, rfl⟩
            rw [hmdE] at hmo hwm
            rw [hdvE] at hdi hwd hw1 hdv0 hdv1
            have HMD := Lib.hid hmdE
            have HDV := Lib.hid hdvE
            have HDB := Lib.hid (And.intro hdv0 hdv1)
            clear hmdE hdvE hdv0 hdv1
            obtain ⟨s2, hmd⟩ : ∃ r, (md != 0) = r := ⟨_, rfl⟩
            cases s2
            rotate_left
            · skip
              have xx0 := among_below u0
              have xx1 := among_below x0
              have HC1 : Hid (∀ xq : Among (Below U.heap.size U), Calls Try.prog 18 #[.int .i64 c, .int .i64 1, .int .i64 m] xq.val fun e w' => e = .returned (.bool true) ∧ ∃ y : Among (Below U.heap.size U), w' = y.val) := Lib.hid (fun xq => calls_class ((rWithinE c 1 m true HS1.out xq.val).mono fun e w' h => ⟨h.1, h.2 ▸ xq.ok⟩))
              have HSt : Hid (Below U.heap.size U U.drew) := Lib.hid (Below.refl _ _).drew
              have hne : Nonempty (Among (Below U.heap.size U)) := ⟨⟨_, HSt.out⟩⟩
              refine wp_region_class (Below U.heap.size U) (by kernel_rfl) (by kernel_rfl) HSt.out ?_
              repeat (go_big_quiet_step ((go_at_call 18; first | with_reducible exact HC1.out _)))
              refine wpQuiet_nil ?_
              intro w8 hx
              have HB8 := Lib.hid (among_out hx)
              clear hx hne xx0 xx1
              go_wp2_with fail
              go_ret
              exact ⟨ret_bool (HBAD.out fun g => by have h2 := (Pure.camBad_no HM.out.1).1 g.1; have h3 := HMD.out; simp only [bne_iff_ne, ne_eq] at hmd; omega).symm, below_thn HB.out (below_thn HBU.out HB8.out)⟩
            · have hz : md = 0 := by simpa using hmd
              subst hz
              clear hmd
              obtain ⟨s3, hs3⟩ : ∃ r, decide (1 ≤ up ∧ up ≤ dv - 1) = r := ⟨_, rfl⟩
              have HS3 := Lib.hid hs3
              clear hs3
              cases s3
              · skip
                have xx0 := among_below u0
                have xx1 := among_below u1
                have xx2 := among_below x0
                have HC1 : Hid (∀ xq : Among (Below U.heap.size U), Calls Try.prog 18 #[.int .i64 c, .int .i64 1, .int .i64 m] xq.val fun e w' => e = .returned (.bool true) ∧ ∃ y : Among (Below U.heap.size U), w' = y.val) := Lib.hid (fun xq => calls_class ((rWithinE c 1 m true HS1.out xq.val).mono fun e w' h => ⟨h.1, h.2 ▸ xq.ok⟩))
                have HC3 : Hid (∀ xq : Among (Below U.heap.size U), Calls Try.prog 18 #[.int .i64 up, .int .i64 1, .int .i64 (dv - 1)] xq.val fun e w' => e = .returned (.bool false) ∧ ∃ y : Among (Below U.heap.size U), w' = y.val) := Lib.hid (fun xq => calls_class ((rWithinE up 1 (dv - 1) false HS3.out xq.val).mono fun e w' h => ⟨h.1, h.2 ▸ xq.ok⟩))
                have HSt : Hid (Below U.heap.size U U.drew) := Lib.hid (Below.refl _ _).drew
                have hne : Nonempty (Among (Below U.heap.size U)) := ⟨⟨_, HSt.out⟩⟩
                refine wp_region_class (Below U.heap.size U) (by kernel_rfl) (by kernel_rfl) HSt.out ?_
                repeat (go_big_quiet_step ((go_at_call 18; first | with_reducible exact HC1.out _ | with_reducible exact HC3.out _)))
                refine wpQuiet_nil ?_
                intro w8 hx
                have HB8 := Lib.hid (among_out hx)
                clear hx hne xx0 xx1 xx2
                go_wp2_with fail
                go_ret
                exact ⟨ret_bool (HBAD.out fun g => by have h1 := of_decide_eq_false HS3.out; have h2 := (Pure.camBad_no HM.out.1).1 g.1; have h3 := HDV.out; omega).symm, below_thn HB.out (below_thn HBU.out HB8.out)⟩
              · obtain ⟨s4, hs4⟩ : ∃ r, decide (1 ≤ pd ∧ pd ≤ 500) = r := ⟨_, rfl⟩
                have HS4 := Lib.hid hs4
                clear hs4
                cases s4
                · skip
                  have xx0 := among_below u0
                  have xx1 := among_below u1
                  have xx2 := among_below u2
                  have xx3 := among_below x0
                  have HC1 : Hid (∀ xq : Among (Below U.heap.size U), Calls Try.prog 18 #[.int .i64 c, .int .i64 1, .int .i64 m] xq.val fun e w' => e = .returned (.bool true) ∧ ∃ y : Among (Below U.heap.size U), w' = y.val) := Lib.hid (fun xq => calls_class ((rWithinE c 1 m true HS1.out xq.val).mono fun e w' h => ⟨h.1, h.2 ▸ xq.ok⟩))
                  have HC3 : Hid (∀ xq : Among (Below U.heap.size U), Calls Try.prog 18 #[.int .i64 up, .int .i64 1, .int .i64 (dv - 1)] xq.val fun e w' => e = .returned (.bool true) ∧ ∃ y : Among (Below U.heap.size U), w' = y.val) := Lib.hid (fun xq => calls_class ((rWithinE up 1 (dv - 1) true HS3.out xq.val).mono fun e w' h => ⟨h.1, h.2 ▸ xq.ok⟩))
                  have HC4 : Hid (∀ xq : Among (Below U.heap.size U), Calls Try.prog 18 #[.int .i64 pd, .int .i64 1, .int .i64 500] xq.val fun e w' => e = .returned (.bool false) ∧ ∃ y : Among (Below U.heap.size U), w' = y.val) := Lib.hid (fun xq => calls_class ((rWithinE pd 1 500 false HS4.out xq.val).mono fun e w' h => ⟨h.1, h.2 ▸ xq.ok⟩))
                  have HSt : Hid (Below U.heap.size U U.drew) := Lib.hid (Below.refl _ _).drew
                  have hne : Nonempty (Among (Below U.heap.size U)) := ⟨⟨_, HSt.out⟩⟩
                  refine wp_region_class (Below U.heap.size U) (by kernel_rfl) (by kernel_rfl) HSt.out ?_
                  repeat (go_big_quiet_step ((go_at_call 18; first | with_reducible exact HC1.out _ | with_reducible exact HC3.out _ | with_reducible exact HC4.out _)))
                  refine wpQuiet_nil ?_
                  intro w8 hx
                  have HB8 := Lib.hid (among_out hx)
                  clear hx hne xx0 xx1 xx2 xx3
                  go_wp2_with fail
                  go_ret
                  exact ⟨ret_bool (HBAD.out fun g => by have h1 := of_decide_eq_false HS4.out; have h2 := Pure.poundBad_no.1 g.2; omega).symm, below_thn HB.out (below_thn HBU.out HB8.out)⟩
                · skip
                  have xx0 := among_below u0
                  have xx1 := among_below u1
                  have xx2 := among_below u2
                  have xx3 := among_below x0
                  have HC1 : Hid (∀ xq : Among (Below U.heap.size U), Calls Try.prog 18 #[.int .i64 c, .int .i64 1, .int .i64 m] xq.val fun e w' => e = .returned (.bool true) ∧ ∃ y : Among (Below U.heap.size U), w' = y.val) := Lib.hid (fun xq => calls_class ((rWithinE c 1 m true HS1.out xq.val).mono fun e w' h => ⟨h.1, h.2 ▸ xq.ok⟩))
                  have HC3 : Hid (∀ xq : Among (Below U.heap.size U), Calls Try.prog 18 #[.int .i64 up, .int .i64 1, .int .i64 (dv - 1)] xq.val fun e w' => e = .returned (.bool true) ∧ ∃ y : Among (Below U.heap.size U), w' = y.val) := Lib.hid (fun xq => calls_class ((rWithinE up 1 (dv - 1) true HS3.out xq.val).mono fun e w' h => ⟨h.1, h.2 ▸ xq.ok⟩))
                  have HC4 : Hid (∀ xq : Among (Below U.heap.size U), Calls Try.prog 18 #[.int .i64 pd, .int .i64 1, .int .i64 500] xq.val fun e w' => e = .returned (.bool true) ∧ ∃ y : Among (Below U.heap.size U), w' = y.val) := Lib.hid (fun xq => calls_class ((rWithinE pd 1 500 true HS4.out xq.val).mono fun e w' h => ⟨h.1, h.2 ▸ xq.ok⟩))
                  have HSt : Hid (Below U.heap.size U U.drew) := Lib.hid (Below.refl _ _).drew
                  have hne : Nonempty (Among (Below U.heap.size U)) := ⟨⟨_, HSt.out⟩⟩
                  refine wp_region_class (Below U.heap.size U) (by kernel_rfl) (by kernel_rfl) HSt.out ?_
                  repeat (go_big_quiet_step ((go_at_call 18; first | with_reducible exact HC1.out _ | with_reducible exact HC3.out _ | with_reducible exact HC4.out _)))
                  refine wpQuiet_nil ?_
                  intro w8 hx
                  have HB8 := Lib.hid (among_out hx)
                  clear hx hne xx0 xx1 xx2 xx3
                  go_wp2_with fail
                  go_roundw
                  case rel => exact ⟨k + 1, by omega, by go_num, fun j hj => by
                    by_cases e : j = k
                    · subst e
                      rw [HV.out.1, HV.out.2.1, HV.out.2.2]
                      have h1 := of_decide_eq_true HS1.out
                      have h3 := of_decide_eq_true HS3.out
                      have h4 := of_decide_eq_true HS4.out
                      have h5 := HMD.out
                      have h6 := HDV.out
                      exact ⟨(Pure.camBad_no HM.out.1).2 ⟨h1, h5, by omega, by omega⟩, Pure.poundBad_no.2 h4⟩
                    · exact HQ.out j (by omega), below_thn HBU.out HB8.out⟩
                  case measure => simp [intOf]; omega
        · obtain rfl : k = n := by omega
          go_wp2_with fail
          go_ret
          exact ⟨ret_bool (Pure.shaft_iff.2 ⟨HM.out, HN4.out, HQ.out⟩).symm, below_thn HB.out HBk.out⟩
    · have hm' : 4 < (n : Int) := by omega
      have HM := Lib.hid hm
      clear hm
      go_wp2_with fail
      go_ret
      exact ⟨ret_bool (Pure.shaft_no fun g => by have h1 := HM.out; have h2 := g.2.1; omega).symm, HB.out⟩

namespace Pure
/-- Where the first cams of a setting may be. -/
def setB (m : Int) (n : Nat) (F : Nat → Int) (sn : Nat) (S : Nat → Int) : Bool := decide (sn = n) && decide (∀ j, j < sn → 0 ≤ S j ∧ S j ≤ m / F (j * 3) - 1)
theorem setB_iff {m : Int} {n : Nat} {F : Nat → Int} {sn : Nat} {S : Nat → Int} : setB m n F sn S = true ↔ sn = n ∧ ∀ j, j < sn → 0 ≤ S j ∧ S j ≤ m / F (j * 3) - 1 := by
  unfold setB
  simp only [Bool.and_eq_true, decide_eq_true_eq]
theorem setB_no {m : Int} {n : Nat} {F : Nat → Int} {sn : Nat} {S : Nat → Int} (g : ¬ (sn = n ∧ ∀ j, j < sn → 0 ≤ S j ∧ S j ≤ m / F (j * 3) - 1)) : setB m n F sn S = false := by
  cases e : setB m n F sn S with
  | false => rfl
  | true => exact absurd (setB_iff.1 e) g
theorem shaft_cam {m : Int} {n : Nat} {F : Nat → Int} (h : shaft m n F = true) {j : Nat} (hj : j < n) : (1 ≤ F (j * 3) ∧ F (j * 3) ≤ m) ∧ 2 ≤ m / F (j * 3) := by
  obtain ⟨h1, _, h3⟩ := shaft_iff.1 h
  have h4 := (camBad_no h1.1).1 (h3 j hj).1
  exact ⟨h4.1, by omega⟩
end Pure
set_option maxHeartbeats 16000000 in
set_option maxRecDepth 100000 in
theorem rSet_any (m : Int) (a : Option Addr) (n cc : Nat) (F : Nat → Int) (sa : Option Addr) (sn sc : Nat) (S : Nat → Int) (hn : n ≤ 40) (hsn : sn ≤ 40) (hv : Pure.shaft m n F = true) (w : World) (hF : NumsAt w a (n * 3) F) (hS : NumsAt w sa sn S) :
    Calls Try.prog 17 #[shaftV m a n cc, .slice sa sn sc] w fun e w' => e = .returned (.bool (Pure.setB m n F sn S)) ∧ Below w.heap.size w w' := by
  obtain ⟨W, hW⟩ : ∃ W, w.alloc (shaftB m a n cc) = W := ⟨_, rfl⟩
  have HB : Hid (Below w.heap.size w W) := Lib.hid (by rw [← hW]; exact below_new _ _)
  have HX : Hid (W.heap[w.heap.size]? = some (shaftB m a n cc)) := Lib.hid (by rw [← hW]; exact heap_top _ _ rfl)
  have HP := Lib.hid (hF.below HB.out)
  have HQ := Lib.hid (hS.below HB.out)
  have HV := Lib.hid hv
  clear hF hS hv
  have x1 := heap_cell HX.out (j := 1) rfl
  go_enter Try.func17, Try.ntmps17
  go_upto_region 1 with fail
  try rw [hW]
  clear hW
  by_cases hne : sn = n
  rotate_left
  · have h1 : ¬ ((sn : Int) = n) := by omega
    go_wp2_with fail
    go_ret
    exact ⟨ret_bool (Pure.setB_no fun g => hne g.1).symm, HB.out⟩
  · subst hne
    go_wp2_with fail
    clear x1
    go_loopw [5] (fun i wr => ∃ k : Nat, k ≤ sn ∧ i = .int .i64 k ∧ (∀ j, j < k → 0 ≤ S j ∧ S j ≤ m / F (j * 3) - 1) ∧ Below W.heap.size W wr) (fun i _ => sn - (intOf i).toNat)
    case atStart => exact ⟨0, Nat.zero_le _, rfl, fun j hj => by omega, Below.refl _ _⟩
    case round =>
      obtain ⟨k, hk, rfl, hq, hb⟩ := hrel
      have HQk := Lib.hid hq
      have HBk := Lib.hid hb
      clear hq hb
      by_cases hk1 : k < sn
      · obtain ⟨b, off, rfl, _⟩ := HP.out (k * 3) (by omega)
        obtain ⟨b', off', rfl, _⟩ := HQ.out k hk1
        have n1 : (k : Int) < sn := by omega
        have c0 := (HP.out.below HBk.out).at (show k * 3 < sn * 3 by omega)
        have d0 := (HQ.out.below HBk.out).at hk1
        obtain ⟨c, hi⟩ : ∃ x, F (k * 3) = x := ⟨_, rfl⟩
        obtain ⟨sv, he⟩ : ∃ x, S k = x := ⟨_, rfl⟩
        have hcam := Pure.shaft_cam HV.out hk1
        rw [hi] at c0 hcam
        rw [he] at d0
        have HVV := Lib.hid (And.intro hi he)
        clear hi he
        obtain ⟨hc0, hmo, hdi, hwm, hwd, hw1, hdv0, hdv1⟩ := Pure.quo_facts (Pure.shaft_iff.1 HV.out).1 hcam.1.1
        obtain ⟨dv, hdvE⟩ : ∃ z, m / c = z := ⟨_, rfl⟩
        rw [hdvE] at hdi hwd hw1 hdv0 hdv1
        have HDV := Lib.hid hdvE
        clear hdvE hdv0 hdv1 hmo hwm hcam
        have y0 := heap_cell (heap_lft HX.out HBk.out) (j := 0) rfl
        have y1 := heap_cell (heap_lft HX.out HBk.out) (j := 1) rfl
        obtain ⟨s1, hs1⟩ : ∃ r, decide (0 ≤ sv ∧ sv ≤ dv - 1) = r := ⟨_, rfl⟩
        have HS1 := Lib.hid hs1
        clear hs1
        go_upto_region 6 with fail
        cases s1
        · skip
          have xx0 := among_below c0
          have xx1 := among_below d0
          have xx2 := among_below y0
          have xx3 := among_below y1
          have HC1 : Hid (∀ xq : Among (Below wr.heap.size wr), Calls Try.prog 18 #[.int .i64 sv, .int .i64 0, .int .i64 (dv - 1)] xq.val fun e w' => e = .returned (.bool false) ∧ ∃ y : Among (Below wr.heap.size wr), w' = y.val) := Lib.hid (fun xq => calls_class ((rWithinE sv 0 (dv - 1) false HS1.out xq.val).mono fun e w' h => ⟨h.1, h.2 ▸ xq.ok⟩))
          have HSt : Hid (Below wr.heap.size wr wr.drew) := Lib.hid (Below.refl _ _).drew
          have hne : Nonempty (Among (Below wr.heap.size wr)) := ⟨⟨_, HSt.out⟩⟩
          refine wp_region_class (Below wr.heap.size wr) (by kernel_rfl) (by kernel_rfl) HSt.out ?_
          repeat (go_big_quiet_step ((go_at_call 18; first | with_reducible exact HC1.out _)))
          refine wpQuiet_nil ?_
          intro w8 hx
          have HB8 := Lib.hid (among_out hx)
          clear hx hne xx0 xx1 xx2 xx3
          clear c0 d0 y0 y1
          go_wp2_with fail
          go_ret
          exact ⟨ret_bool (Pure.setB_no fun g => by have h1 := of_decide_eq_false HS1.out; have h2 := g.2 k hk1; rw [HVV.out.1, HVV.out.2, HDV.out] at h2; exact h1 h2).symm, below_thn HB.out (below_thn HBk.out HB8.out)⟩
        · skip
          have xx0 := among_below c0
          have xx1 := among_below d0
          have xx2 := among_below y0
          have xx3 := among_below y1
          have HC1 : Hid (∀ xq : Among (Below wr.heap.size wr), Calls Try.prog 18 #[.int .i64 sv, .int .i64 0, .int .i64 (dv - 1)] xq.val fun e w' => e = .returned (.bool true) ∧ ∃ y : Among (Below wr.heap.size wr), w' = y.val) := Lib.hid (fun xq => calls_class ((rWithinE sv 0 (dv - 1) true HS1.out xq.val).mono fun e w' h => ⟨h.1, h.2 ▸ xq.ok⟩))
          have HSt : Hid (Below wr.heap.size wr wr.drew) := Lib.hid (Below.refl _ _).drew
          have hne : Nonempty (Among (Below wr.heap.size wr)) := ⟨⟨_, HSt.out⟩⟩
          refine wp_region_class (Below wr.heap.size wr) (by kernel_rfl) (by kernel_rfl) HSt.out ?_
          repeat (go_big_quiet_step ((go_at_call 18; first | with_reducible exact HC1.out _)))
          refine wpQuiet_nil ?_
          intro w8 hx
          have HB8 := Lib.hid (among_out hx)
          clear hx hne xx0 xx1 xx2 xx3
          clear c0 d0 y0 y1
          go_wp2_with fail
          go_roundw
          case rel => exact ⟨k + 1, by omega, by go_num, fun j hj => by
            by_cases e : j = k
            · subst e
              rw [HVV.out.1, HVV.out.2, HDV.out]
              exact of_decide_eq_true HS1.out
            · exact HQk.out j (by omega), below_thn HBk.out HB8.out⟩
          case measure => simp [intOf]; omega
      · obtain rfl : k = sn := by omega
        go_wp2_with fail
        go_ret
        exact ⟨ret_bool (Pure.setB_iff.2 ⟨rfl, HQk.out⟩).symm, below_thn HB.out HBk.out⟩

end Go.Proofs.Ytijfdfplebbaaab
