/-
  The contract of the specification's Bound.
-/
import Derived.Test.YtmpbdbfflbdppaaRLikely
namespace Go.Proofs.Ytmpbdbfflbdppaa
open Go.RowKit Go.Shelf

namespace Pure
theorem askE_off {b lo hi o f p q : Int} (h : canE b lo hi o f ≠ 0) (h1 : canE b lo hi o f ≠ 8) : askE b lo hi o f p q = canE b lo hi o f := by
  cases hc : okCargo b lo hi with
  | false => unfold askE canE afterE; rw [hc]; rfl
  | true =>
    cases hd : okDraw b o f with
    | false => unfold askE canE afterE; rw [hc, hd]; rfl
    | true =>
      rw [canE_ok hc hd] at h h1
      cases hs : some b.toNat lo hi o f with
      | false => rw [hs] at h1; exact absurd rfl h1
      | true => rw [hs] at h; exact absurd rfl h
theorem askE_bad {b lo hi o f p q : Int} (h : canE b lo hi o f = 0 ∨ canE b lo hi o f = 8) (hp : okParts 1 (fun _ => p) (fun _ => q) = false) : askE b lo hi o f p q = 12 := by
  cases hc : okCargo b lo hi with
  | false => rw [canE_cargo hc] at h; omega
  | true =>
    cases hd : okDraw b o f with
    | false => rw [canE_draw hc hd] at h; omega
    | true => unfold askE afterE; rw [hc, hd, hp]; rfl
theorem askE_same {b lo hi o f p q : Int} (h : canE b lo hi o f = 0 ∨ canE b lo hi o f = 8) (hp : okParts 1 (fun _ => p) (fun _ => q) = true) : askE b lo hi o f p q = canE b lo hi o f := by
  cases hc : okCargo b lo hi with
  | false => rw [canE_cargo hc] at h; omega
  | true =>
    cases hd : okDraw b o f with
    | false => rw [canE_draw hc hd] at h; omega
    | true =>
      rw [canE_ok hc hd]
      unfold askE afterE
      rw [hc, hd, hp]
      rfl
end Pure

theorem rFew_quiet (b d o f : Int) (hb0 : 0 ≤ b) (hb : b ≤ 36) (hd0 : -36 ≤ d) (hd : d ≤ 36) (hbd : b - d ≤ 36) (ho0 : 0 ≤ o) (ho : o ≤ 36) (hf0 : 0 ≤ f) (hf : f ≤ o) (w : World) :
    Calls Try.prog 62 #[.int .i64 b, .int .i64 d, .int .i64 o, .int .i64 f] w fun e w' => e = .returned (.int .i64 (Pure.few b d o f)) ∧ w' = w :=
  (rFew_any b d o f hb0 hb hd0 hd hbd ho0 ho (by omega) (by omega) w).mono fun _ _ h => ⟨by rw [Pure.few_eq hf0 hf]; exact h.1, h.2.symm⟩
theorem choose_quiet (n k : Int) (h36 : n ≤ 36) (w : World) :
    Calls Try.prog 40 #[.int .i64 n, .int .i64 k] w fun e w' => e = .returned (.int .i64 (Pure.sets n k)) ∧ w' = w := (choose_any n k h36 w).mono fun _ _ h => ⟨h.1, h.2.symm⟩

set_option maxHeartbeats 4000000 in
set_option maxRecDepth 100000 in
theorem rBound_any (b lo hi o f p q : Int) (w : World) :
    Calls Try.prog 23 #[cargoV b lo hi, .agg #[.int .i64 o, .int .i64 f], .agg #[.int .i64 p, .int .i64 q]] w fun e w' => e = .returned (.tuple #[.int .i64 (Pure.boundV b lo hi o f p q), .int .i64 (Pure.boundE b lo hi o f p q)]) ∧ Below w.heap.size w w' := by
  go_enter Try.func23, Try.ntmps23
  go_wp2_with fail
  obtain ⟨W1, hW1⟩ : ∃ W1, ((w.alloc (.cells #[.int .i64 b, .int .i64 lo, .int .i64 hi] 25)).alloc (.cells #[.int .i64 o, .int .i64 f] 27)).alloc (.cells #[.int .i64 p, .int .i64 q] 29) = W1 := ⟨_, rfl⟩
  have hB1 : Below w.heap.size w W1 := by rw [← hW1]; exact (((Below.refl _ _).alloc (Nat.le_refl _) _).alloc (by simp) _).alloc (by simp; omega) _
  have hc1 : W1.heap[w.heap.size]? = some (.cells #[.int .i64 b, .int .i64 lo, .int .i64 hi] 25) := by rw [← hW1]; exact heap_up (heap_up (heap_top _ _ rfl) _) _
  have hd1 : W1.heap[w.heap.size + 1]? = some (.cells #[.int .i64 o, .int .i64 f] 27) := by rw [← hW1]; exact heap_up (heap_top _ _ (by simp)) _
  have hp1 : W1.heap[w.heap.size + 1 + 1]? = some (.cells #[.int .i64 p, .int .i64 q] 29) := by rw [← hW1]; exact heap_top _ _ (by simp)
  rw [hW1]
  have HC1 := Lib.hid hc1
  have HD1 := Lib.hid hd1
  have HP1 := Lib.hid hp1
  have HB1 := Lib.hid hB1
  clear hW1 hB1 hc1 hd1 hp1
  refine (rKnown_any b lo hi o f _).mono ?_
  rintro e W2 ⟨v, rfl, hints, hb⟩
  have HC2 := Lib.hid ((hb.block _ (Array.getElem?_eq_some_iff.1 HC1.out).1).trans HC1.out)
  have HD2 := Lib.hid ((hb.block _ (Array.getElem?_eq_some_iff.1 HD1.out).1).trans HD1.out)
  have HP2 := Lib.hid ((hb.block _ (Array.getElem?_eq_some_iff.1 HP1.out).1).trans HP1.out)
  have HB := Lib.hid (HB1.out.trans (hb.mono HB1.out.size))
  have HI := Lib.hid hints
  obtain ⟨code, hcode⟩ : ∃ c, Pure.canE b lo hi o f = c := ⟨_, rfl⟩
  have HCODE := Lib.hid hcode
  rw [hcode]
  clear hb hints hcode
  by_cases hoff : code ≠ 0 ∧ code ≠ 8
  · have HASK := Lib.hid (Pure.askE_off (p := p) (q := q) (by rw [HCODE.out]; exact hoff.1) (by rw [HCODE.out]; exact hoff.2))
    have HNE := Lib.hid hoff.1
    have n1 : (code != 0) = true := by simpa using hoff.1
    have n2 : (code != 8) = true := by simpa using hoff.2
    clear hoff
    go_wp2_with fail
    go_ret2
    refine ⟨?_, HB.out⟩
    rw [Pure.boundV_err (by rw [HASK.out, HCODE.out]; exact HNE.out), Pure.boundE_err (by rw [HASK.out, HCODE.out]; exact HNE.out), HASK.out, HCODE.out]
    rfl
  · have hor : code = 0 ∨ code = 8 := by omega
    clear hoff
    have p0 := heap_cell HP2.out (j := 0) rfl
    have p1 := heap_cell HP2.out (j := 1) rfl
    obtain ⟨r, hr⟩ : ∃ r, Pure.okParts 1 (fun _ => p) (fun _ => q) = r := ⟨_, rfl⟩
    have HRR := Lib.hid hr
    clear hr
    have HB3 : Hid (∀ W3, Below W2.heap.size W2 W3 → Below w.heap.size w W3) := Lib.hid (fun W3 h => HB.out.trans (h.mono HB.out.size))
    rcases hor with rfl | rfl
    all_goals
      go_wp2_with fail
      refine (rGiven_any p q _).mono ?_
      rintro e W3 ⟨rfl, hb3⟩
      rw [HRR.out]
      have HBW := Lib.hid hb3
      clear hb3 p0 p1
      cases r
      · have HASK := Lib.hid (Pure.askE_bad (p := p) (q := q) (by rw [HCODE.out]; decide) HRR.out)
        go_wp2_with fail
        go_ret2
        refine ⟨?_, HB3.out _ HBW.out⟩
        rw [Pure.boundV_err (by rw [HASK.out]; decide), Pure.boundE_err (by rw [HASK.out]; decide), HASK.out]
        rfl
      · have HASK := Lib.hid (Pure.askE_same (p := p) (q := q) (by rw [HCODE.out]; decide) HRR.out)
        first
        | (have h8 : Pure.canE b lo hi o f = 8 := HCODE.out
           go_wp2_with fail
           go_ret2
           refine ⟨?_, HB3.out _ HBW.out⟩
           rw [Pure.boundV_err (by rw [HASK.out, h8]; decide), Pure.boundE_err (by rw [HASK.out, h8]; decide), HASK.out, h8]
           rfl)
        | (obtain ⟨m, hm⟩ := Pure.known_some HCODE.out
           obtain ⟨q1, q2, _, _⟩ := Pure.afterE_zero HCODE.out
           obtain ⟨s1, s2, s3, s4⟩ := Pure.okParts_one HRR.out
           have hL := HI.out
           rw [Pure.knownL_zero HCODE.out] at hL
           have hm63 : m + 1 ≤ 37 := by
             have h1 := Pure.nums_length b.toNat lo hi o f
             omega
           have HMEM : Hid (∀ x ∈ Pure.nums b.toNat lo hi o f, 0 ≤ x ∧ x ≤ b) := Lib.hid (fun x hx => by have := (Pure.mem_nums.1 hx).1; omega)
           have HBV : Hid (Pure.boundV b lo hi o f p q = (Pure.lastOf (Pure.okBound b o f p q) (Pure.nums b.toNat lo hi o f)).getD 0 ∧ Pure.boundE b lo hi o f p q = Pure.err (Pure.lastOf (Pure.okBound b o f p q) (Pure.nums b.toNat lo hi o f)).isSome 6) := Lib.hid (by
             rw [Pure.boundV_zero (HASK.out.trans HCODE.out), Pure.boundE_zero (HASK.out.trans HCODE.out)]
             unfold Pure.bound
             rw [show ((b.toNat : Nat) : Int) = b by omega]
             exact ⟨rfl, rfl⟩)
           obtain ⟨L, hLL⟩ : ∃ L, Pure.nums b.toNat lo hi o f = L := ⟨_, rfl⟩
           rw [hLL] at hm hL HMEM HBV
           clear hLL
           obtain ⟨a, cap, hv, hcells⟩ := hL
           obtain ⟨g, hg, hg2⟩ := hcells 0 L[0] (List.getElem?_eq_getElem (by omega))
           clear hg2
           subst hg
           have HCELL : Hid (∀ j x, L[j]? = some x → W2.cell? ⟨g, j, none⟩ = some (.int .i64 x)) := Lib.hid (fun j x hj => by
             obtain ⟨g', e, hc⟩ := hcells j x hj
             cases e
             exact hc)
           rw [hm] at hv
           subst hv
           have HM := Lib.hid hm
           clear hcells hm
           have HT : Hid (L.take (m + 1) = L) := Lib.hid (Pure.take_all (by have := HM.out; omega))
           have set0 : 0 < Pure.sets b o := Pure.sets_pos (by omega) (by omega)
           have set1 : Pure.sets b o ≤ 68719476736 := Pure.sets_le (by omega)
           obtain ⟨sx, hsx⟩ : ∃ y, Pure.sets b o = y := ⟨_, rfl⟩
           rw [hsx] at set0 set1
           have HCH : Hid (∀ W, Calls Try.prog 40 #[.int .i64 b, .int .i64 o] W fun e w' => e = .returned (.int .i64 sx) ∧ w' = W) := Lib.hid (fun W => by rw [← hsx]; exact choose_quiet b o (by omega) W)
           have m3 : 0 ≤ sx * p := Int.mul_nonneg (by omega) s1
           have m4 : sx * p ≤ 68719476736 * 1000 := Int.mul_le_mul set1 (by omega) s1 (by decide)
           have HOK : Hid (∀ x, Pure.okBound b o f p q x = decide (sx * p ≤ Pure.few b x o f * q)) := Lib.hid (fun x => by unfold Pure.okBound; rw [hsx, Int.mul_comm p sx])
           obtain ⟨ok, hok⟩ : ∃ ok, Pure.okBound b o f p q = ok := ⟨_, rfl⟩
           rw [hok] at HBV HOK
           clear hok hsx
           go_wp2_with fail
           go_loopw [10] (fun i wr => ∃ k : Nat, k ≤ m + 1 ∧ i = .int .i64 ((k : Int) - 1) ∧ Pure.lastOf ok (L.take k) = Pure.lastOf ok L ∧ Below W2.heap.size W2 wr) (fun i _ => (intOf i + 1).toNat)
           case atStart => exact ⟨m + 1, Nat.le_refl _, by go_num, by rw [HT.out], HBW.out⟩
           case round =>
             obtain ⟨k, hk, rfl, hlast, hbw⟩ := hrel
             have HLAST := Lib.hid hlast
             clear hlast
             cases k with
             | zero =>
               rw [show (((0 : Nat) : Int) - 1) = -1 by decide]
               have HBQ := Lib.hid hbw
               clear hbw
               go_wp2_with fail
               go_ret2
               refine ⟨?_, HB3.out _ HBQ.out⟩
               rw [HBV.out.1, HBV.out.2, ← HLAST.out]
               rfl
             | succ j =>
               rw [show (((j + 1 : Nat) : Int) - 1) = (j : Int) by omega]
               obtain ⟨x, hx⟩ : ∃ x, L[j]? = some x := ⟨L[j]'(by have := HM.out; omega), List.getElem?_eq_getElem (by have := HM.out; omega)⟩
               have hxm := HMEM.out x (List.mem_of_getElem? hx)
               have gx := below_cell hbw (HCELL.out j x hx)
               have c0 := below_cell hbw (heap_cell HC2.out (j := 0) rfl)
               have d0 := below_cell hbw (heap_cell HD2.out (j := 0) rfl)
               have d1 := below_cell hbw (heap_cell HD2.out (j := 1) rfl)
               have p0 := below_cell hbw (heap_cell HP2.out (j := 0) rfl)
               have p1 := below_cell hbw (heap_cell HP2.out (j := 1) rfl)
               have HSN := Lib.hid (Pure.take_snoc hx)
               have few0 : 0 ≤ Pure.few b x o f := Pure.few_nonneg
               have few1 : Pure.few b x o f ≤ 2542620639232 := Pure.few_le (by omega) (by omega)
               have HOX := Lib.hid (HOK.out x)
               have hcl : ∀ W, Calls Try.prog 62 #[.int .i64 b, .int .i64 x, .int .i64 o, .int .i64 f] W fun e w' => e = .returned (.int .i64 (Pure.few b x o f)) ∧ w' = W := fun W => rFew_quiet b x o f (by omega) (by omega) (by omega) (by omega) (by omega) (by omega) (by omega) q2.2.2.1 q2.2.2.2 W
               obtain ⟨fx, hfx⟩ : ∃ y, Pure.few b x o f = y := ⟨_, rfl⟩
               rw [hfx] at few0 few1 HOX hcl
               have HCALL := Lib.hid hcl
               have m1 : 0 ≤ fx * q := Int.mul_nonneg few0 (by omega)
               have m2 : fx * q ≤ 2542620639232 * 1000 := Int.mul_le_mul few1 s4 (by omega) (by decide)
               have HBQ := Lib.hid hbw
               have hjm : (j : Int) ≤ m := by omega
               clear hfx hcl hx hxm hbw
               by_cases hcmp : sx * p ≤ fx * q
               · have HR : Hid (Pure.lastOf ok L = some x) := Lib.hid (by rw [← HLAST.out, HSN.out]; exact Pure.lastOf_yes (by rw [HOX.out]; exact decide_eq_true hcmp))
                 go_wp2_with fail
                 go_quiet ((first | (go_at_call 62; exact Calls.quiet_of_same (HCALL.out _)) | (go_at_call 40; exact Calls.quiet_of_same (HCH.out _))))
                 go_wp2_with fail
                 go_ret2
                 refine ⟨?_, HB3.out _ (below_drewN HBQ.out _)⟩
                 rw [HBV.out.1, HBV.out.2, HR.out]
                 rfl
               · have HR : Hid (Pure.lastOf ok (L.take j) = Pure.lastOf ok L) := Lib.hid (by rw [← HLAST.out, HSN.out]; exact (Pure.lastOf_no (by rw [HOX.out]; exact decide_eq_false hcmp)).symm)
                 go_wp2_with fail
                 go_quiet ((first | (go_at_call 62; exact Calls.quiet_of_same (HCALL.out _)) | (go_at_call 40; exact Calls.quiet_of_same (HCH.out _))))
                 go_wp2_with fail
                 go_roundw
                 case rel => exact ⟨j, by omega, by go_num, HR.out, below_drewN HBQ.out _⟩
                 case measure => simp [intOf])

end Go.Proofs.Ytmpbdbfflbdppaa
