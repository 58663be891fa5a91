/-
  The contracts of the specification's within, Watch, Rick, and of Same at equal contents.
-/
import Derived.Test.YteoakchcomodgaaWCopy
namespace Go.Proofs.Yteoakchcomodgaa
open Go.RowKit

namespace Pure
theorem watch_iff {h : Int} {n : Nat} {F : Nat → Int} : watch h n F = true ↔ ((0 ≤ h ∧ h ≤ 3) ∧ (n : Int) ≤ 4 ∧ (∀ j, j < n → wrongR (F (j * 3)) (F (j * 3 + 1)) (F (j * 3 + 2)) = false) ∧ ∀ j, j < n - 1 → F (j * 3) < F ((j + 1) * 3)) := by
  unfold watch hands fewR fitR ordR inOrder
  simp only [Bool.and_eq_true, decide_eq_true_eq, Bool.not_eq_true', List.any_eq_false, List.mem_range, Bool.not_eq_true]
  constructor
  · rintro ⟨⟨⟨a1, a2⟩, a3⟩, a4⟩
    exact ⟨a1, a2, a3, a4⟩
  · rintro ⟨a1, a2, a3, a4⟩
    exact ⟨⟨⟨a1, a2⟩, a3⟩, a4⟩
theorem watch_no {h : Int} {n : Nat} {F : Nat → Int} (g : ¬ ((0 ≤ h ∧ h ≤ 3) ∧ (n : Int) ≤ 4 ∧ (∀ j, j < n → wrongR (F (j * 3)) (F (j * 3 + 1)) (F (j * 3 + 2)) = false) ∧ ∀ j, j < n - 1 → F (j * 3) < F ((j + 1) * 3))) : watch h n F = false := by
  cases e : watch h n F with
  | false => rfl
  | true => exact absurd (watch_iff.1 e) g
theorem wrongR_no {i e d : Int} : wrongR i e d = false ↔ (1 ≤ i ∧ i ≤ 9999) ∧ (1 ≤ e ∧ e ≤ 6) ∧ 0 ≤ d ∧ d ≤ e - 1 := by
  unfold wrongR
  simp only [Bool.or_eq_false_iff, Bool.not_eq_false', decide_eq_true_eq]
/-- The Id ahead of the k-th rick. -/
def lastF (F : Nat → Int) (k : Nat) : Int := if k = 0 then 0 else F ((k - 1) * 3)
end Pure

theorem rWithinE (n lo hi : Int) (r : Bool) (hr : decide (lo ≤ n ∧ n ≤ hi) = r) (w : World) : Calls Try.prog 42 #[.int .i64 n, .int .i64 lo, .int .i64 hi] w fun e w' => e = .returned (.bool r) ∧ w = w' := by
  subst hr
  go_enter Try.func42, Try.ntmps42
  by_cases h : lo ≤ n
  · go_wp2_with fail
    go_ret
    exact ⟨ret_bool (by simp [h]), rfl⟩
  · go_wp2_with fail
    go_ret
    exact ⟨ret_bool (by simp; omega), rfl⟩

set_option maxHeartbeats 4000000 in
set_option maxRecDepth 100000 in
theorem rWatch_any (h : Int) (a : Option Addr) (n c : Nat) (F : Nat → Int) (hn : n ≤ 40) (w : World) (hF : NumsAt w a (n * 3) F) :
    Calls Try.prog 29 #[watchV h a n c] w fun e w' => e = .returned (.bool (Pure.watch h n F)) ∧ Below w.heap.size w w' := by
  obtain ⟨W, hW⟩ : ∃ W, w.alloc (watchB h a n c) = W := ⟨_, rfl⟩
  have HB : Hid (Below w.heap.size w W) := Lib.hid (by rw [← hW]; exact below_new _ _)
  have HX : Hid (W.heap[w.heap.size]? = some (watchB h a n c)) := Lib.hid (by rw [← hW]; exact heap_top _ _ rfl)
  have HP := Lib.hid (hF.below HB.out)
  clear hF
  obtain ⟨r1, hr1⟩ : ∃ r, decide (0 ≤ h ∧ h ≤ 3) = r := ⟨_, rfl⟩
  have HR1 := Lib.hid hr1
  clear hr1
  have x0 := heap_cell HX.out (j := 0) rfl
  have x1 := heap_cell HX.out (j := 1) rfl
  go_enter Try.func29, Try.ntmps29
  go_upto_region 1 with fail
  try rw [hW]
  clear hW
  go_wp2_with fail
  refine (rWithinE h 0 3 r1 HR1.out _).mono ?_
  rintro e w' ⟨rfl, rfl⟩
  cases r1
  · go_wp2_with fail
    go_ret
    exact ⟨ret_bool (Pure.watch_no fun g => by have h1 := of_decide_eq_false HR1.out; exact h1 g.1).symm, HB.out⟩
  · by_cases hm : (n : Int) ≤ 4
    · have HM := Lib.hid hm
      have hm' : ¬ (4 < (n : Int)) := by omega
      clear hm
      go_wp2_with fail
      go_loopw [3, 5, 19] (fun l _ i wr => ∃ k : Nat, k ≤ n ∧ i = .int .i64 k ∧ l = .int .i64 (Pure.lastF F k) ∧ (∀ j, j < k → Pure.wrongR (F (j * 3)) (F (j * 3 + 1)) (F (j * 3 + 2)) = false ∧ Pure.lastF F j < F (j * 3)) ∧ Below W.heap.size W wr) (fun _ _ i _ => n - (intOf i).toNat)
      case atStart => exact ⟨0, Nat.zero_le _, rfl, rfl, fun j hj => by omega, Below.refl _ _⟩
      case round =>
        obtain ⟨k, hk, rfl, rfl, hq, hb⟩ := hrel
        have HQ := Lib.hid hq
        have HBk := Lib.hid hb
        clear hq hb
        have hl : 0 ≤ Pure.lastF F k ∧ Pure.lastF F k ≤ 9999 := by
          unfold Pure.lastF
          by_cases h0 : k = 0
          · rw [if_pos h0]; omega
          · rw [if_neg h0]
            have := (Pure.wrongR_no.1 (HQ.out (k - 1) (by omega)).1).1
            omega
        have HL1 := Lib.hid hl
        obtain ⟨la, hla⟩ : ∃ x, Pure.lastF F k = x := ⟨_, rfl⟩
        rw [hla] at hl ⊢
        have HLA := Lib.hid hla
        clear hla
        by_cases hk1 : k < n
        · obtain ⟨b, off, rfl, _⟩ := HP.out (k * 3) (by omega)
          have n1 : (k : Int) < n := by omega
          have c0 := (HP.out.below HBk.out).at (show k * 3 < n * 3 by omega)
          have c1 := nums_row (HP.out.below HBk.out) (show k * 3 + 1 < n * 3 by omega)
          have c2 := nums_row (HP.out.below HBk.out) (show k * 3 + 2 < n * 3 by omega)
          obtain ⟨i, hi⟩ : ∃ x, F (k * 3) = x := ⟨_, rfl⟩
          obtain ⟨ev, he⟩ : ∃ x, F (k * 3 + 1) = x := ⟨_, rfl⟩
          obtain ⟨d, hd⟩ : ∃ x, F (k * 3 + 2) = x := ⟨_, rfl⟩
          rw [hi] at c0
          rw [he] at c1
          rw [hd] at c2
          have HV := Lib.hid (And.intro hi (And.intro he hd))
          clear hi he hd
          have hbad : ¬ (Pure.wrongR i ev d = false ∧ la < i) → Pure.watch h n F = false := fun g => Pure.watch_no fun ⟨_, _, g3, g4⟩ => g ⟨by have := g3 k hk1; rw [HV.out.1, HV.out.2.1, HV.out.2.2] at this; exact this, by
            have g5 := g3 k hk1
            rw [HV.out.1, HV.out.2.1, HV.out.2.2] at g5
            have g6 := (Pure.wrongR_no.1 g5).1
            have h6 := HLA.out
            unfold Pure.lastF at h6
            by_cases h0 : k = 0
            · rw [if_pos h0] at h6; omega
            · rw [if_neg h0] at h6
              have g7 := g4 (k - 1) (by omega)
              rw [show (k - 1 + 1) * 3 = k * 3 by omega, HV.out.1] at g7
              omega⟩
          have HBAD := Lib.hid hbad
          clear hbad
          obtain ⟨U, hU⟩ : ∃ U, wr.alloc (rickB i ev d) = U := ⟨_, rfl⟩
          have HBU : Hid (Below W.heap.size W U) := Lib.hid (by rw [← hU]; exact below_thn HBk.out (below_new _ _))
          have HXU : Hid (U.heap[wr.heap.size]? = some (rickB i ev d)) := Lib.hid (by rw [← hU]; exact heap_top _ _ rfl)
          have u0 := heap_cell HXU.out (j := 0) rfl
          have u1 := heap_cell HXU.out (j := 1) rfl
          have u2 := heap_cell HXU.out (j := 2) rfl
          obtain ⟨s1, hs1⟩ : ∃ r, decide (la + 1 ≤ i ∧ i ≤ 9999) = r := ⟨_, rfl⟩
          obtain ⟨s2, hs2⟩ : ∃ r, decide (1 ≤ ev ∧ ev ≤ 6) = r := ⟨_, rfl⟩
          obtain ⟨s3, hs3⟩ : ∃ r, decide (0 ≤ d ∧ d ≤ ev - 1) = r := ⟨_, rfl⟩
          have HS1 := Lib.hid hs1
          have HS2 := Lib.hid hs2
          have HS3 := Lib.hid hs3
          clear hs1 hs2 hs3
          go_upto_region 7 with fail
          try rw [hU]
          clear hU c0 c1 c2
          go_wp2_with fail
          refine (rWithinE i (la + 1) 9999 s1 HS1.out _).mono ?_
          rintro e w' ⟨rfl, rfl⟩
          cases s1
          · go_wp2_with fail
            go_ret
            exact ⟨ret_bool (HBAD.out fun g => by have h1 := of_decide_eq_false HS1.out; have h2 := (Pure.wrongR_no.1 g.1).1; omega).symm, below_thn HB.out HBU.out⟩
          · go_wp2_with fail
            refine (rWithinE ev 1 6 s2 HS2.out _).mono ?_
            rintro e w' ⟨rfl, rfl⟩
            cases s2
            · go_wp2_with fail
              go_ret
              exact ⟨ret_bool (HBAD.out fun g => by have h1 := of_decide_eq_false HS2.out; have h2 := (Pure.wrongR_no.1 g.1).2.1; omega).symm, below_thn HB.out HBU.out⟩
            · have hev := of_decide_eq_true HS2.out
              have hw : IntKind.i64.wrap (ev - 1) = ev - 1 := by rw [IntWalk.i64_in _ (by omega)]
              clear hev
              go_wp2_with fail
              refine (rWithinE d 0 (ev - 1) s3 HS3.out _).mono ?_
              rintro e w' ⟨rfl, rfl⟩
              cases s3
              · go_wp2_with fail
                go_ret
                exact ⟨ret_bool (HBAD.out fun g => by have h1 := of_decide_eq_false HS3.out; have h2 := (Pure.wrongR_no.1 g.1).2.2; omega).symm, below_thn HB.out HBU.out⟩
              · go_wp2_with fail
                go_roundw
                case rel => exact ⟨k + 1, by omega, by go_num, by rw [Pure.lastF, if_neg (by omega), Nat.add_sub_cancel, HV.out.1], fun j hj => by
                  by_cases e : j = k
                  · subst e
                    rw [HV.out.1, HV.out.2.1, HV.out.2.2, HLA.out]
                    have h1 := of_decide_eq_true HS1.out
                    have h2 := of_decide_eq_true HS2.out
                    have h3 := of_decide_eq_true HS3.out
                    exact ⟨Pure.wrongR_no.2 ⟨by omega, h2, h3⟩, by omega⟩
                  · exact HQ.out j (by omega), HBU.out⟩
                case measure => simp [intOf]; omega
        · obtain rfl : k = n := by omega
          go_wp2_with fail
          go_ret
          exact ⟨ret_bool (Pure.watch_iff.2 ⟨of_decide_eq_true HR1.out, HM.out, fun j hj => (HQ.out j hj).1, fun j hj => by
            have := (HQ.out (j + 1) (by omega)).2
            rw [Pure.lastF, if_neg (by omega), Nat.add_sub_cancel] at this
            exact this⟩).symm, below_thn HB.out HBk.out⟩
    · have hm' : 4 < (n : Int) := by omega
      have HM := Lib.hid hm
      clear hm
      go_wp2_with fail
      go_ret
      exact ⟨ret_bool (Pure.watch_no fun g => by have h1 := HM.out; have h2 := g.2.1; omega).symm, HB.out⟩

set_option maxHeartbeats 2000000 in
set_option maxRecDepth 100000 in
theorem rRick_any (h : Int) (a : Option Addr) (n c : Nat) (F : Nat → Int) (id : Int) (hn : n ≤ 40) (w : World) (hF : NumsAt w a (n * 3) F) :
    Calls Try.prog 51 #[watchV h a n c, .int .i64 id] w fun e w' => e = .returned (.int .i64 (Pure.firstAt (fun j => F (j * 3) == id) n)) ∧ Below w.heap.size w w' := by
  obtain ⟨W, hW⟩ : ∃ W, w.alloc (watchB h a n c) = W := ⟨_, rfl⟩
  have HB : Hid (Below w.heap.size w W) := Lib.hid (by rw [← hW]; exact below_new _ _)
  have HX : Hid (W.heap[w.heap.size]? = some (watchB h a n c)) := Lib.hid (by rw [← hW]; exact heap_top _ _ rfl)
  have HP := Lib.hid (hF.below HB.out)
  clear hF
  have x0 := heap_cell HX.out (j := 0) rfl
  have x1 := heap_cell HX.out (j := 1) rfl
  go_enter Try.func51, Try.ntmps51
  go_upto_region 1 with fail
  try rw [hW]
  clear hW
  go_wp2_with fail
  go_loop [5] (fun i => ∃ k : Nat, k ≤ n ∧ i = .int .i64 k ∧ ∀ j, j < k → (F (j * 3) == id) = false) (fun i => n - (intOf i).toNat)
  case atStart => exact ⟨0, Nat.zero_le _, rfl, fun j hj => by omega⟩
  case round =>
    obtain ⟨k, hk, rfl, hq⟩ := hrel
    have HQ := Lib.hid hq
    clear hq
    by_cases hk1 : k < n
    · obtain ⟨b, off, rfl, _⟩ := HP.out (k * 3) (by omega)
      have n1 : (k : Int) < n := by omega
      have c0 := HP.out.at (show k * 3 < n * 3 by omega)
      cases he : (F (k * 3) == id) with
      | true =>
        go_wp2_with fail
        go_ret
        exact ⟨ret_int (Pure.firstAt_hit hk1 HQ.out he).symm, HB.out⟩
      | false =>
        go_wp2_with fail
        go_round
        case rel => exact ⟨k + 1, by omega, by go_num, fun j hj => by
          by_cases e : j = k
          · subst e; exact he
          · exact HQ.out j (by omega)⟩
        case measure => simp [intOf]; omega
    · obtain rfl : k = n := by omega
      have n1 : ¬ (k : Int) < k := by omega
      go_wp2_with fail
      go_ret
      exact ⟨ret_int (Pure.firstAt_none HQ.out).symm, HB.out⟩

set_option maxHeartbeats 4000000 in
set_option maxRecDepth 100000 in
theorem same_true (h : Int) (a : Option Addr) (n c : Nat) (a' : Option Addr) (c' : Nat) (F : Nat → Int) (hn : n ≤ 40) (w : World) (hF : NumsAt w a (n * 3) F) (hF' : NumsAt w a' (n * 3) F) :
    Calls Try.prog 15 #[watchV h a n c, watchV h a' n c'] w fun e w' => e = .returned (.bool true) ∧ Below w.heap.size w w' := by
  obtain ⟨W, hW⟩ : ∃ W, (w.alloc (watchB h a n c)).alloc (watchB h a' n c') = W := ⟨_, rfl⟩
  have HB : Hid (Below w.heap.size w W) := Lib.hid (by rw [← hW]; exact (below_new _ _).alloc (by simp) _)
  have HX : Hid (W.heap[w.heap.size]? = some (watchB h a n c)) := Lib.hid (by rw [← hW]; exact heap_up (heap_top _ _ rfl) _)
  have HY : Hid (W.heap[w.heap.size + 1]? = some (watchB h a' n c')) := Lib.hid (by rw [← hW]; exact heap_top _ _ (by simp))
  have HP := Lib.hid (hF.below HB.out)
  have HQ := Lib.hid (hF'.below HB.out)
  clear hF hF'
  have x0 := heap_cell HX.out (j := 0) rfl
  have x1 := heap_cell HX.out (j := 1) rfl
  have y0 := heap_cell HY.out (j := 0) rfl
  have y1 := heap_cell HY.out (j := 1) rfl
  go_enter Try.func15, Try.ntmps15
  go_upto_region 1 with fail
  try rw [hW]
  clear hW
  go_wp2_with fail
  clear x0 x1 y0 y1
  go_loopw [5] (fun i wr => ∃ k : Nat, k ≤ n ∧ i = .int .i64 k ∧ Below W.heap.size W wr) (fun i _ => n - (intOf i).toNat)
  case atStart => exact ⟨0, Nat.zero_le _, rfl, Below.refl _ _⟩
  case round =>
    obtain ⟨k, hk, rfl, hb⟩ := hrel
    have HBa := Lib.hid hb
    have HXa := Lib.hid (heap_lft HX.out hb)
    have HYa := Lib.hid (heap_lft HY.out hb)
    have HPP := Lib.hid (HP.out.below hb)
    have HQQ := Lib.hid (HQ.out.below hb)
    clear hb
    have z0 := heap_cell HXa.out (j := 1) rfl
    have z1 := heap_cell HYa.out (j := 1) rfl
    by_cases hk1 : k < n
    · obtain ⟨b, off, h9, _⟩ := HPP.out (k * 3) (by omega)
      obtain ⟨b', off', h8, _⟩ := HQQ.out (k * 3) (by omega)
      subst h9
      subst h8
      have n1 : (k : Int) < n := by omega
      have p0 := HPP.out.at (show k * 3 < n * 3 by omega)
      have p1 := nums_row HPP.out (show k * 3 + 1 < n * 3 by omega)
      have p2 := nums_row HPP.out (show k * 3 + 2 < n * 3 by omega)
      have q0 := HQQ.out.at (show k * 3 < n * 3 by omega)
      have q1 := nums_row HQQ.out (show k * 3 + 1 < n * 3 by omega)
      have q2 := nums_row HQQ.out (show k * 3 + 2 < n * 3 by omega)
      go_upto_region 6 with fail
      have xx0 := among_below p0
      have xx1 := among_below p1
      have xx2 := among_below p2
      have xx3 := among_below q0
      have xx4 := among_below q1
      have xx5 := among_below q2
      have xx6 := among_below z0
      have xx7 := among_below z1
      have HSt : Hid (Below wr.heap.size wr wr.drew) := Lib.hid (Below.refl _ _).drew
      have hne : Nonempty (Among (Below wr.heap.size wr)) := ⟨⟨_, HSt.out⟩⟩
      refine wp_region_class (Below wr.heap.size wr) (by kernel_rfl) (by kernel_rfl) HSt.out ?_
      repeat (go_big_quiet_step (fail))
      refine wpQuiet_nil ?_
      intro w8 hx
      have HB8 := Lib.hid (below_thn HBa.out (among_out hx))
      clear hx hne xx0 xx1 xx2 xx3 xx4 xx5 xx6 xx7 p0 p1 p2 q0 q1 q2 z0 z1
      go_wp2_with fail
      go_roundw
      case rel => exact ⟨k + 1, by omega, by go_num, HB8.out⟩
      case measure => simp [intOf]; omega
    · obtain rfl : k = n := by omega
      go_wp2_with fail
      go_ret
      exact ⟨rfl, below_thn HB.out HBa.out⟩

end Go.Proofs.Yteoakchcomodgaa
