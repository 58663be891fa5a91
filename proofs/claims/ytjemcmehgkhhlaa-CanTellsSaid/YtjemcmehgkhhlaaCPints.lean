/-
  The contract of the specification's pints: how much is poured, or nothing.
-/
import Derived.Test.YtjemcmehgkhhlaaCRef
import Derived.BigRegion
namespace Go.Proofs.Ytjemcmehgkhhlaa
open Go.RowKit

namespace Pure
/-- How much the specification pours. -/
def rp (A S : Nat → Int) (f t : Nat) : Int := if f = 0 then (if A (t - 1) - S t ≤ S 0 then A (t - 1) - S t else 0) else if t = 0 then S f else (if A (t - 1) - S t < S f then A (t - 1) - S t else S f)
theorem rp_can {n : Nat} {A S : Nat → Int} (h : Good n A S) {f t : Nat} (hf : f ≤ n) (ht : t ≤ n) (hne : f ≠ t) :
    (canP A S f t = true → rp A S f t = amt A S f t ∧ rp A S f t ≠ 0 ∧ movedS S f t (rp A S f t) 0 ≤ 600) ∧ (rp A S f t ≠ 0 → movedS S f t (rp A S f t) 0 ≤ 600 → canP A S f t = true) := by
  have h1 := h.most hf
  have h2 := h.most ht
  have h0 := h.1
  unfold rp canP part amt movedS mostA at *
  simp only [Bool.and_eq_true, decide_eq_true_eq, Bool.not_eq_true', Bool.or_eq_false_iff, Bool.and_eq_false_iff, decide_eq_false_iff_not]
  grind
theorem rp_bound {n : Nat} {A S : Nat → Int} (h : Good n A S) {f t : Nat} (hf : f ≤ n) (ht : t ≤ n) (hne : f ≠ t) : 0 ≤ rp A S f t ∧ rp A S f t ≤ 600 := by
  have h1 := h.most hf
  have h2 := h.most ht
  unfold rp mostA at *
  grind
end Pure

set_option maxHeartbeats 4000000 in
set_option maxRecDepth 100000 in
theorem rPints_any (a : Option Addr) (n c : Nat) (b : Option Addr) (d : Nat) (A S : Nat → Int) (f t : Nat) (hf : f ≤ n) (ht : t ≤ n) (hne : f ≠ t) (hn : n ≤ 3) (hG : Pure.Good n A S) (w : World) (hA : NumsAt w a n A) (hB : NumsAt w b n (fun q => S (q + 1))) :
    Calls Try.prog 16 #[cansV a n c b n d (S 0), pourV f t] w fun e w' => e = .returned (.int .i64 (Pure.rp A S f t)) ∧ Below w.heap.size w w' := by
  obtain ⟨W, hW⟩ : ∃ W, (w.alloc (cansB a n c b n d (S 0))).alloc (pourB f t) = W := ⟨_, rfl⟩
  have HB : Hid (Below w.heap.size w W) := Lib.hid (by rw [← hW]; exact (below_new _ _).alloc (by simp) _)
  have HX : Hid (W.heap[w.heap.size]? = some (cansB a n c b n d (S 0))) := Lib.hid (by rw [← hW]; exact heap_up (heap_top _ _ rfl) _)
  have HY : Hid (W.heap[w.heap.size + 1]? = some (pourB f t)) := Lib.hid (by rw [← hW]; exact heap_top _ _ (by simp))
  have HA := Lib.hid (hA.below HB.out)
  have HBB := Lib.hid (hB.below HB.out)
  have HM := Lib.hid (And.intro (hG.most hf) (hG.most ht))
  clear hA hB
  have x0 := heap_cell HX.out (v := .slice a n c) (j := 0) rfl
  have x1 := heap_cell HX.out (v := .slice b n d) (j := 1) rfl
  have x2 := heap_cell HX.out (v := .int .i64 (S 0)) (j := 2) rfl
  have y0 := heap_cell HY.out (v := .int .i64 f) (j := 0) rfl
  have y1 := heap_cell HY.out (v := .int .i64 t) (j := 1) rfl
  go_enter Try.func16, Try.ntmps16
  go_upto_region 1 with fail
  try rw [hW]
  clear hW
  by_cases hf0 : f = 0
  · have e1 : ((f : Int) == 0) = true := by rw [hf0]; rfl
    obtain ⟨y, rfl⟩ : ∃ y, t = y + 1 := ⟨t - 1, by omega⟩
    obtain ⟨g, off, rfl, c0⟩ := HA.out y (by omega)
    obtain ⟨g', off', rfl, c1⟩ := HBB.out y (by omega)
    have hw : IntKind.i64.wrap (((y + 1 : Nat) : Int) - 1) = (y : Int) := by rw [IntWalk.i64_in _ (by omega)]; omega
    have hw' : IntKind.i64.wrap ((y : Int) + 1 - 1) = (y : Int) := by rw [IntWalk.i64_in _ (by omega)]; omega
    have n1 : (y : Int) < n := by omega
    have hm := HM.out
    have hmg := hG.2 y (by omega)
    have hw2 : IntKind.i64.wrap (A y - S (y + 1)) = A y - S (y + 1) := IntWalk.i64_in _ (by omega)
    obtain ⟨lk, hlk⟩ : ∃ lk, A y - S (y + 1) = lk := ⟨_, rfl⟩
    have HLK := Lib.hid hlk
    have HF0 := Lib.hid hf0
    rw [hlk] at hw2
    clear hf0 hm hmg
    go_upto_region 2 with fail
    have xx0 := among_below c0
    have xx1 := among_below c1
    have xx2 := among_below x0
    have xx3 := among_below x1
    have xx4 := among_below y0
    have xx5 := among_below y1
    have xx6 := among_below x2
    have HSt : Hid (Below W.heap.size W W.drew) := Lib.hid (Below.refl _ _).drew
    have hne2 : Nonempty (Among (Below W.heap.size W)) := ⟨⟨_, HSt.out⟩⟩
    refine wp_region_class (Below W.heap.size W) (by kernel_rfl) (by kernel_rfl) HSt.out ?_
    repeat (go_big_quiet_step (fail))
    refine wpQuiet_nil ?_
    intro w8 hx
    have hb8 := among_out hx
    have HB8 := Lib.hid hb8
    clear hx hne2 xx0 xx1 xx2 xx3 xx4 xx5 xx6 c0 c1 x0 x1 x2 y0 y1
    have x2 := heap_cell (heap_lft HX.out HB8.out) (v := .int .i64 (S 0)) (j := 2) rfl
    by_cases hle : lk ≤ S 0
    · have HLE := Lib.hid hle
      go_wp2_with fail
      go_ret
      exact ⟨ret_int (by unfold Pure.rp; rw [if_pos HF0.out, Nat.add_sub_cancel, HLK.out, if_pos HLE.out]), below_thn HB.out HB8.out⟩
    · have HLE := Lib.hid hle
      go_wp2_with fail
      go_ret
      exact ⟨ret_int (by unfold Pure.rp; rw [if_pos HF0.out, Nat.add_sub_cancel, HLK.out, if_neg (by have := HLE.out; omega)]), below_thn HB.out HB8.out⟩
  · have e1 : ((f : Int) == 0) = false := beq_eq_false_iff_ne.2 (by omega)
    obtain ⟨z, rfl⟩ : ∃ z, f = z + 1 := ⟨f - 1, by omega⟩
    obtain ⟨g', off', rfl, c1⟩ := HBB.out z (by omega)
    have hv : IntKind.i64.wrap (((z + 1 : Nat) : Int) - 1) = (z : Int) := by rw [IntWalk.i64_in _ (by omega)]; omega
    have hv' : IntKind.i64.wrap ((z : Int) + 1 - 1) = (z : Int) := by rw [IntWalk.i64_in _ (by omega)]; omega
    have n1 : (z : Int) < n := by omega
    by_cases ht0 : t = 0
    · have e2 : ((t : Int) == 0) = true := by rw [ht0]; rfl
      have HT0 := Lib.hid ht0
      clear ht0
      go_wp2_with fail
      go_ret
      exact ⟨ret_int (by unfold Pure.rp; rw [if_neg (by omega), if_pos HT0.out]), HB.out⟩
    · have e2 : ((t : Int) == 0) = false := beq_eq_false_iff_ne.2 (by omega)
      obtain ⟨y, rfl⟩ : ∃ y, t = y + 1 := ⟨t - 1, by omega⟩
      obtain ⟨g, off, rfl, c0⟩ := HA.out y (by omega)
      have c2 := HBB.out.at (show y < n by omega)
      have hw : IntKind.i64.wrap (((y + 1 : Nat) : Int) - 1) = (y : Int) := by rw [IntWalk.i64_in _ (by omega)]; omega
      have hw' : IntKind.i64.wrap ((y : Int) + 1 - 1) = (y : Int) := by rw [IntWalk.i64_in _ (by omega)]; omega
      have n2 : (y : Int) < n := by omega
      have hmg := hG.2 y (by omega)
      have hw2 : IntKind.i64.wrap (A y - S (y + 1)) = A y - S (y + 1) := IntWalk.i64_in _ (by omega)
      obtain ⟨lk, hlk⟩ : ∃ lk, A y - S (y + 1) = lk := ⟨_, rfl⟩
      have HLK := Lib.hid hlk
      rw [hlk] at hw2
      clear hmg ht0
      go_upto_region 8 with fail
      obtain ⟨mn, hmin⟩ : ∃ mn, (if lk < S (z + 1) then lk else S (z + 1)) = mn := ⟨_, rfl⟩
      have HMN := Lib.hid hmin
      go_region
      all_goals try go_wp2_with fail
      all_goals go_ret
      all_goals exact ⟨ret_int (by unfold Pure.rp; rw [if_neg (by omega), if_neg (by omega), Nat.add_sub_cancel, HLK.out, HMN.out]), below_thn HB.out (Below.refl _ _).drew⟩
end Go.Proofs.Ytjemcmehgkhhlaa
