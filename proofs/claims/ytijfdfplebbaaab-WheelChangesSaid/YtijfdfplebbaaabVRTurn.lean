/-
  The contract of the specification's Turned.
-/
import Derived.Test.YtijfdfplebbaaabVTurn
namespace Go.Proofs.Ytijfdfplebbaaab
open Go.RowKit

namespace Pure
theorem rest_facts2 {x g : Int} (hg : 2 ≤ g ∧ g ≤ 12) (hx : -20 ≤ x ∧ x ≤ 100) : IntKind.i64.wrap x = x ∧ IntKind.i64.wrap (12 * g) = 12 * g ∧ IntKind.i64.wrap (x + 12 * g) = x + 12 * g ∧ Int.tmod (x + 12 * g) g = x % g ∧ IntKind.i64.wrap (x % g) = x % g := by
  have h3 := Int.emod_nonneg x (show g ≠ 0 by omega)
  have h4 := Int.emod_lt_of_pos x (show 0 < g by omega)
  refine ⟨IntWalk.i64_in _ (by omega), IntWalk.i64_in _ (by omega), IntWalk.i64_in _ (by omega), ?_, IntWalk.i64_in _ (by omega)⟩
  rw [Int.tmod_eq_emod_of_nonneg (by omega), Int.add_mul_emod_self_right]
theorem setC_of {m : Int} {n : Nat} {F : Nat → Int} {sn : Nat} {S : Nat → Int} (h : shaft m n F = true) : setC m n F sn S = err (setB m n F sn S) 103 := if_pos h
end Pure

set_option maxHeartbeats 16000000 in
set_option maxRecDepth 100000 in
theorem rTurned_any (m : Int) (a : Option Addr) (n cc : Nat) (F : Nat → Int) (sa : Option Addr) (sn sc : Nat) (S : Nat → Int) (by_ : Int) (hn : n ≤ 40) (hsn : sn ≤ 40) (w : World) (hF : NumsAt w a (n * 3) F) (hS : NumsAt w sa sn S) :
    Calls Try.prog 7 #[shaftV m a n cc, .slice sa sn sc, .int .i64 by_] w (TurnOut sn (Pure.turnF m F S by_) (Pure.turnC m n F sn S by_) w) := by
  obtain ⟨W, hW⟩ : ∃ W, w.alloc (shaftB m a n cc) = W := ⟨_, rfl⟩
  have HB : Hid (Below w.heap.size w W) := Lib.hid (by rw [← hW]; exact below_new _ _)
  have HX : Hid (W.heap[w.heap.size]? = some (shaftB m a n cc)) := Lib.hid (by rw [← hW]; exact heap_top _ _ rfl)
  have HP := Lib.hid (hF.below HB.out)
  have HS := Lib.hid (hS.below HB.out)
  clear hF hS
  obtain ⟨q, hq⟩ : ∃ q, Pure.turnC m n F sn S by_ = q := ⟨_, rfl⟩
  rw [hq]
  have HQ := Lib.hid hq
  clear hq
  have x0 := heap_cell HX.out (j := 0) rfl
  have x1 := heap_cell HX.out (j := 1) rfl
  go_enter Try.func7, Try.ntmps7
  go_upto_region 1 with fail
  try rw [hW]
  clear hW
  go_wp2_with fail
  refine (rShaft_any m a n cc F hn _ HP.out).mono ?_
  rintro e W1 ⟨rfl, hb⟩
  have HX1 := Lib.hid (heap_lft HX.out hb)
  have HB1 := Lib.hid (below_thn HB.out hb)
  have HP1 := Lib.hid (HP.out.below hb)
  have HS1 := Lib.hid (HS.out.below hb)
  clear hb x0 x1
  obtain ⟨v1, hv1⟩ : ∃ z, Pure.shaft m n F = z := ⟨_, rfl⟩
  rw [hv1]
  have HV := Lib.hid hv1
  clear hv1
  cases v1
  · have hq0 : q = 102 := by rw [← HQ.out]; simp [Pure.turnC, Pure.setC, HV.out]
    subst hq0
    go_wp2_with fail
    go_ret2
    exact ⟨none, 0, 0, rfl, rfl, own_nil _ _ _ _ _, HB1.out⟩
  · have x0 := heap_cell HX1.out (j := 0) rfl
    have x1 := heap_cell HX1.out (j := 1) rfl
    go_wp2_with fail
    refine (rSet_any m a n cc F sa sn sc S hn hsn HV.out _ HP1.out HS1.out).mono ?_
    rintro e W2 ⟨rfl, hb⟩
    have HX2 := Lib.hid (heap_lft HX1.out hb)
    have HB2 := Lib.hid (below_thn HB1.out hb)
    have HP2 := Lib.hid (HP1.out.below hb)
    have HS2 := Lib.hid (HS1.out.below hb)
    clear hb x0 x1
    obtain ⟨v2, hv2⟩ : ∃ z, Pure.setB m n F sn S = z := ⟨_, rfl⟩
    rw [hv2]
    have HSB := Lib.hid hv2
    clear hv2
    cases v2
    · have hq0 : q = 103 := by rw [← HQ.out]; simp [Pure.turnC, Pure.setC, HV.out, HSB.out, Pure.err]
      subst hq0
      go_wp2_with fail
      go_ret2
      exact ⟨none, 0, 0, rfl, rfl, own_nil _ _ _ _ _, HB2.out⟩
    · obtain ⟨v3, hv3⟩ : ∃ z, decide (-12 ≤ by_ ∧ by_ ≤ 12) = z := ⟨_, rfl⟩
      have HBY := Lib.hid hv3
      clear hv3
      go_wp2_with fail
      refine (rWithinE by_ (-12) 12 v3 HBY.out _).mono ?_
      rintro e W3 ⟨rfl, rfl⟩
      cases v3
      · have hq0 : q = 2 := by rw [← HQ.out]; simp only [Pure.turnC, Pure.setC, HV.out, HSB.out, HBY.out]; rfl
        subst hq0
        go_wp2_with fail
        go_ret2
        exact ⟨none, 0, 0, rfl, rfl, own_nil _ _ _ _ _, HB2.out⟩
      · have hq0 : q = 0 := by rw [← HQ.out]; simp only [Pure.turnC, Pure.setC, HV.out, HSB.out, HBY.out]; rfl
        subst hq0
        obtain rfl : sn = n := (Pure.setB_iff.1 HSB.out).1
        go_wp2_with fail
        go_loopw [8, 9, 10] (fun l i _ wr => ∃ (k : Nat) (a' : Option Addr) (c' : Nat), k ≤ sn ∧ i = .int .i64 k ∧ l = .slice a' k c' ∧ OwnNums wr W2.heap.size 3 1 a' k c' (Pure.turnF m F S by_) ∧ Below W2.heap.size W2 wr) (fun _ i _ _ => sn - (intOf i).toNat)
        case atStart => exact ⟨0, none, 0, Nat.zero_le _, rfl, rfl, own_nil _ _ _ _ _, Below.refl _ _⟩
        case round =>
          obtain ⟨k, a', c', hk, rfl, rfl, ho, hb⟩ := hrel
          have HOk := Lib.hid ho
          have HBk := Lib.hid hb
          have HXk := Lib.hid (heap_lft HX2.out hb)
          clear ho hb
          by_cases hk1 : k < sn
          · obtain ⟨b, off, rfl, _⟩ := HP2.out (k * 3) (by omega)
            obtain ⟨b', off', rfl, _⟩ := HS2.out k hk1
            have n1 : (k : Int) < sn := by omega
            have c0 := (HP2.out.below HBk.out).at (show k * 3 < sn * 3 by omega)
            have d0 := (HS2.out.below HBk.out).at hk1
            obtain ⟨c, hi⟩ : ∃ x, F (k * 3) = x := ⟨_, rfl⟩
            obtain ⟨sv, he⟩ : ∃ x, S k = x := ⟨_, rfl⟩
            have hcam := Pure.shaft_cam HV.out hk1
            have hsv := (Pure.setB_iff.1 HSB.out).2 k hk1
            have hby := of_decide_eq_true HBY.out
            rw [hi] at c0 hcam hsv
            rw [he] at d0 hsv
            obtain ⟨hc0, _, hdi, _, hwd, _, hdv0, hdv1⟩ := Pure.quo_facts (Pure.shaft_iff.1 HV.out).1 hcam.1.1
            obtain ⟨dv, hdvE⟩ : ∃ z, m / c = z := ⟨_, rfl⟩
            rw [hdvE] at hdi hwd hdv0 hdv1 hcam hsv
            have HVE : Hid (Pure.turnF m F S by_ k = (sv + by_) % dv) := Lib.hid (by rw [Pure.turnF, hi, he, hdvE])
            have hd0 : ¬ dv = 0 := by omega
            have HRF := Lib.hid (Pure.rest_facts2 (x := sv + by_) (g := dv) ⟨hcam.2, hdv1⟩ ⟨by omega, by omega⟩)
            have HD0 := Lib.hid hd0
            clear hi he hdvE hcam hsv hby hdv0 hdv1 hd0
            have y0 := heap_cell HXk.out (j := 0) rfl
            have y1 := heap_cell HXk.out (j := 1) rfl
            go_upto_region 11 with fail
            have xx0 := among_below c0
            have xx1 := among_below y0
            have xx2 := among_below y1
            have HSt : Hid (Below wr.heap.size wr wr.drew) := Lib.hid (Below.refl _ _).drew
            have hne : Nonempty (Among (Below wr.heap.size wr)) := ⟨⟨_, HSt.out⟩⟩
            refine wp_region_class (Below wr.heap.size wr) (by kernel_rfl) (by kernel_rfl) HSt.out ?_
            repeat (go_big_quiet_step (fail))
            refine wpQuiet_nil ?_
            intro w8 hx
            have HB8 := Lib.hid (among_out hx)
            clear hx hne xx0 xx1 xx2
            obtain ⟨U, hUE⟩ : ∃ x, x = w8 := ⟨_, rfl⟩
            have HBU : Hid (Below W2.heap.size W2 U) := Lib.hid (by rw [hUE]; exact below_thn HBk.out HB8.out)
            have HOU := Lib.hid (HOk.out.below HB8.out)
            have d1 := below_cell HB8.out d0
            subst hUE
            clear c0 d0 y0 y1 hc0 hdi hwd
            obtain ⟨v, hv⟩ : ∃ z, (sv + by_) % dv = z := ⟨_, rfl⟩
            obtain ⟨g1, g2, g3, g4, g5⟩ := HRF.out
            have g0 := HD0.out
            rw [hv] at g4 g5 HVE
            clear hv
            obtain ⟨Y, hY⟩ : ∃ Y, U.alloc (.cells #[.int .i64 v] 3) = Y := ⟨_, rfl⟩
            have hby : Below U.heap.size U Y := by rw [← hY]; exact below_new _ _
            have hsrc : NumsAt Y (some ⟨U.heap.size, 0, none⟩) (1 * 1) (fun _ => v) := nums_one (by rw [← hY]; exact first_cell _ _ _ rfl)
            obtain ⟨i0, hi0, hz0, hz1, hz2⟩ := infoInt
            obtain ⟨a2, c2, Z, hr, hol, _, hbe, _⟩ := app_own Y W2.heap.size 3 25 25 1 8 i0 _ Try.underlying25 hi0 hz0 hz1 hz2 rfl (by decide) (by decide) (HOU.out.below hby) (some ⟨U.heap.size, 0, none⟩) 1 1 (fun _ => v) hsrc (fun h => by cases h) (by omega) (by omega) (Nat.le_trans HBU.out.size hby.size)
            have HO2 : Hid (OwnNums Z W2.heap.size 3 1 a2 (k + 1) c2 (Pure.turnF m F S by_)) := Lib.hid (hol.congr (fun q hq => by
              unfold joinF
              by_cases h1 : q < k * 1
              · rw [if_pos h1]
              · rw [if_neg h1]
                obtain rfl : q = k := by omega
                exact HVE.out.symm))
            have HBZ : Hid (Below W2.heap.size W2 Z) := Lib.hid ((below_thn HBU.out hby).trans hbe)
            rw [← hY] at hr
            have HAR := Lib.hid hr
            clear hY hby hsrc hi0 hz0 hz1 hz2 hr hol hbe
            go_wp2_with (at_builtin; refine Lib.wpList_append_run _ rfl _ _ _ _ rfl _ _ rfl rfl _ _ HAR.out ?_)
            go_roundw
            case rel => exact ⟨k + 1, a2, c2, by omega, by go_num, rfl, HO2.out, HBZ.out⟩
            case measure => simp [intOf]; omega
          · obtain rfl : k = sn := by omega
            go_wp2_with fail
            go_ret2
            exact ⟨a', k, c', rfl, rfl, HOk.out.base HB2.out.size, below_thn HB2.out HBk.out⟩

end Go.Proofs.Ytijfdfplebbaaab
