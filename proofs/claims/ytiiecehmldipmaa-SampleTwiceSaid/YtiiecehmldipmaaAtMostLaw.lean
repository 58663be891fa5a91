/-
  The contract of atMost, of the statements: whether a fraction is at most another one.
-/
import Derived.Test.YtiiecehmldipmaaOver
import Derived.Test.YtiiecehmldipmaaRefC
namespace Go.Proofs.Ytiiecehmldipmaa
open Go.RowKit Go.Shelf

namespace Pure
/-- a / b is at most c / d. -/
def leP (a b c d : Int) : Bool := decide (a * d ≤ c * b)
theorem le_less {a b c d : Int} (hb : 0 < b) (hd : 0 < d) (h : a / b < c / d) : leP a b c d = true := by
  unfold leP
  rw [decide_eq_true_eq]
  have h1 := Int.lt_ediv_add_one_mul_self a hb
  have h2 := Int.ediv_mul_le c (show d ≠ 0 by omega)
  have h3 : (a / b + 1) * b ≤ c / d * b := Int.mul_le_mul_of_nonneg_right (by omega) (by omega)
  have h4 : a * d ≤ c / d * b * d := Int.mul_le_mul_of_nonneg_right (by omega) (by omega)
  have h5 : c / d * d * b ≤ c * b := Int.mul_le_mul_of_nonneg_right h2 (by omega)
  have h6 : c / d * b * d = c / d * d * b := by rw [Int.mul_assoc, Int.mul_comm b d, ← Int.mul_assoc]
  omega
theorem le_more {a b c d : Int} (hb : 0 < b) (hd : 0 < d) (h : c / d < a / b) : leP a b c d = false := by
  unfold leP
  rw [decide_eq_false_iff_not]
  have h1 := Int.lt_ediv_add_one_mul_self c hd
  have h2 := Int.ediv_mul_le a (show b ≠ 0 by omega)
  have h3 : (c / d + 1) * d ≤ a / b * d := Int.mul_le_mul_of_nonneg_right (by omega) (by omega)
  have h4 : c * b < a / b * d * b := Int.mul_lt_mul_of_pos_right (by omega) hb
  have h5 : a / b * b * d ≤ a * d := Int.mul_le_mul_of_nonneg_right h2 (by omega)
  have h6 : a / b * d * b = a / b * b * d := by rw [Int.mul_assoc, Int.mul_comm d b, ← Int.mul_assoc]
  omega
theorem le_rest {a b c d : Int} (h : a / b = c / d) : leP a b c d = decide (a % b * d ≤ c % d * b) := by
  unfold leP
  have h1 := Int.mul_ediv_add_emod a b
  have h2 := Int.mul_ediv_add_emod c d
  have e1 : a * d = b * (c / d) * d + a % b * d := by rw [← h, ← Int.add_mul, h1]
  have e2 : c * b = d * (c / d) * b + c % d * b := by rw [← Int.add_mul, h2]
  have e3 : b * (c / d) * d = d * (c / d) * b := by rw [Int.mul_comm b, Int.mul_assoc, Int.mul_comm b d, ← Int.mul_assoc, Int.mul_comm d (c / d)]
  rw [decide_eq_decide, e1, e2, e3]
  omega
theorem le_rest_zero {a b c d : Int} (hb : 0 < b) (hd : 0 < d) (h : a / b = c / d) (hx : a % b = 0) : leP a b c d = true := by
  rw [le_rest h, hx, decide_eq_true_eq]
  have := Int.mul_nonneg (Int.emod_nonneg c (show d ≠ 0 by omega)) (show 0 ≤ b by omega)
  omega
theorem le_rest_no {a b c d : Int} (hb : 0 < b) (hd : 0 < d) (h : a / b = c / d) (hx : a % b ≠ 0) (hy : c % d = 0) : leP a b c d = false := by
  rw [le_rest h, hy, decide_eq_false_iff_not]
  have h1 := Int.emod_nonneg a (show b ≠ 0 by omega)
  have h2 : 0 < a % b * d := Int.mul_pos (by omega) hd
  omega
theorem le_rest_more {a b c d : Int} (h : a / b = c / d) : leP d (c % d) b (a % b) = leP a b c d := by
  rw [le_rest h]
  unfold leP
  rw [Int.mul_comm d, Int.mul_comm b]
end Pure

theorem below_draws' {W w : World} (h : Below W.heap.size W w) (n m : Nat) : Below W.heap.size W ((w.drewN n).drewN m) := ⟨h.os, h.tape, h.output, h.size, h.block⟩
/-- The Den of a fraction in a box. -/
def denN (w : World) (B : Nat) : Nat := match w.heap[B]? with
  | Option.some (Obj.cells arr _ _) => (match arr[1]? with
    | Option.some (Value.int _ n) => n.toNat
    | _ => 0)
  | _ => 0
theorem denN_of {w : World} {B : Nat} {a b : Int} {t : TypeId} (h : w.heap[B]? = some (.cells #[.int .i64 a, .int .i64 b] t)) : denN w B = b.toNat := by
  unfold denN
  rw [h]
  rfl

set_option maxHeartbeats 8000000 in
set_option maxRecDepth 100000 in
/-- **atMost**, of the statements. -/
theorem atMost_law (a b c d : Int) (a0 : 0 ≤ a) (a1 : a ≤ 9223372036854775807) (b0 : 0 < b) (b1 : b ≤ 9223372036854775807) (c0 : 0 ≤ c) (c1 : c ≤ 9223372036854775807) (d0 : 0 < d) (d1 : d ≤ 9223372036854775807) (w : World) :
    Calls Try.prog 36 #[.agg #[.int .i64 a, .int .i64 b], .agg #[.int .i64 c, .int .i64 d]] w fun e w' => e = .returned (.bool (Pure.leP a b c d)) ∧ Below w.heap.size w w' := by
  have hp : (w.alloc (.cells #[.int .i64 a, .int .i64 b] 31)).heap[w.heap.size]? = some (.cells #[.int .i64 a, .int .i64 b] 31) := heap_top w _ rfl
  have hp2 := heap_up hp (.cells #[.int .i64 c, .int .i64 d] 31)
  have hq2 : ((w.alloc (.cells #[.int .i64 a, .int .i64 b] 31)).alloc (.cells #[.int .i64 c, .int .i64 d] 31)).heap[w.heap.size + 1]? = some (.cells #[.int .i64 c, .int .i64 d] 31) := heap_top _ _ (by simp)
  have HP := Lib.hid hp2
  have HQ := Lib.hid hq2
  clear hp hp2 hq2
  go_enter Try.func36, Try.ntmps36
  go_wp2_with fail
  go_loopw [5, 6] (fun _ _ wr => ∃ n1 e1 n2 e2 : Int, (0 ≤ n1 ∧ n1 ≤ 9223372036854775807 ∧ 0 < e1 ∧ e1 ≤ 9223372036854775807 ∧ 0 ≤ n2 ∧ n2 ≤ 9223372036854775807 ∧ 0 < e2 ∧ e2 ≤ 9223372036854775807) ∧ Pure.leP n1 e1 n2 e2 = Pure.leP a b c d ∧
      wr.heap[w.heap.size]? = some (.cells #[.int .i64 n1, .int .i64 e1] 31) ∧ wr.heap[w.heap.size + 1]? = some (.cells #[.int .i64 n2, .int .i64 e2] 31) ∧ Below w.heap.size w wr) (fun _ _ wr => denN wr w.heap.size + denN wr (w.heap.size + 1))
  case atStart => exact ⟨a, b, c, d, ⟨a0, a1, b0, b1, c0, c1, d0, d1⟩, rfl, HP.out, HQ.out, ((Below.refl _ _).alloc (Nat.le_refl _) _).alloc (by simp) _⟩
  case round =>
    obtain ⟨n1, e1, n2, e2, ⟨g1, g2, g3, g4, g5, g6, g7, g8⟩, hle, hbp, hbq, hbr⟩ := hrel
    have p0 := heap_cell hbp (j := 0) rfl
    have p1 := heap_cell hbp (j := 1) rfl
    have q0 := heap_cell hbq (j := 0) rfl
    have q1 := heap_cell hbq (j := 1) rfl
    have DP := Lib.hid (denN_of hbp)
    have DQ := Lib.hid (denN_of hbq)
    have HLE := Lib.hid hle
    have HBP := Lib.hid hbp
    have HBQ := Lib.hid hbq
    have HBR := Lib.hid hbr
    clear hle hbp hbq hbr HP HQ a0 a1 b0 b1 c0 c1 d0 d1
    have x0 : 0 ≤ n1 % e1 := Int.emod_nonneg _ (by omega)
    have x1 : n1 % e1 < e1 := Int.emod_lt_of_pos _ g3
    have y0 : 0 ≤ n2 % e2 := Int.emod_nonneg _ (by omega)
    have y1 : n2 % e2 < e2 := Int.emod_lt_of_pos _ g7
    have k1 : ¬ e1 = 0 := by omega
    have k2 : ¬ e2 = 0 := by omega
    by_cases hq : n1 / e1 = n2 / e2
    · have HEQ := Lib.hid hq
      have t1 : (n1 / e1 == n2 / e2) = true := by simp [hq]
      clear hq
      go_wp2_with fail
      go_quiet (fail)
      go_wp2_with fail
      go_cut [5, 6] from 7 to 43 (fun s5 s6 wx => s5 = .int .i64 (n1 % e1) ∧ s6 = .int .i64 (n2 % e2) ∧ Below wr.heap.size wr wx)
      case first =>
        as_aux_lemma =>
          go_quiet (fail)
          go_wp2_with fail
          go_meet
          exact ⟨rfl, rfl, below_draws' (Below.refl _ _) _ _⟩
      case rest =>
        obtain ⟨V, rfl⟩ : ∃ x, x = wc := ⟨_, rfl⟩
        obtain ⟨rfl, rfl, hbc⟩ := hcut
        replace HBP := Lib.hid (heap_lift HBP.out hbc)
        replace HBQ := Lib.hid (heap_lift HBQ.out hbc)
        have HMP : Hid (denN wr w.heap.size + denN wr (w.heap.size + 1) = e1.toNat + e2.toNat) := Lib.hid (by rw [DP.out, DQ.out])
        replace HBR := Lib.hid (below_then HBR.out hbc)
        clear hbc p0 p1 q0 q1 DP DQ
        have p1 := heap_cell HBP.out (j := 1) rfl
        have q1 := heap_cell HBQ.out (j := 1) rfl
        obtain ⟨x, hx⟩ : ∃ x, n1 % e1 = x := ⟨_, rfl⟩
        obtain ⟨y, hy⟩ : ∃ y, n2 % e2 = y := ⟨_, rfl⟩
        rw [hx] at x0 x1
        rw [hy] at y0 y1
        have HX := Lib.hid hx
        have HY := Lib.hid hy
        rw [hx, hy]
        clear hx hy
        rcases Int.lt_or_eq_of_le x0 with h0 | h0
        · have t2 : (x == 0) = false := by simp; omega
          rcases Int.lt_or_eq_of_le y0 with h1 | h1
          · have t3 : (y == 0) = false := by simp; omega
            go_wp2_with fail
            have z1 := among_below p1
            have z3 := among_below q1
            have HC : Hid (∀ (z : Among (Below V.heap.size V)) (o f : Int), Calls Try.prog 31 #[.int .i64 o, .int .i64 f] z.val fun e w' => e = .returned (.agg #[.int .i64 o, .int .i64 f]) ∧ ∃ u : Among (Below V.heap.size V), w' = u.val) :=
              Lib.hid (fun z o f => calls_class ((newPart_any o f z.val).mono fun e w' h => ⟨h.1, below_then z.ok h.2⟩))
            have hne : Nonempty (Among (Below V.heap.size V)) := ⟨⟨V, Below.refl _ _⟩⟩
            refine wp_region_tail 8 (Below V.heap.size V) (by kernel_rfl) (by kernel_rfl) (Below.refl _ _).drew ?_
            simp only [List.take_succ_cons, List.take_zero, List.drop_succ_cons, List.drop_zero]
            repeat (go_big_quiet_step ((go_at_call 31; with_reducible exact HC.out _ _ _)))
            refine wpQuiet_nil ?_
            intro w3 hw3
            have hB3 := among_out hw3
            replace HBP := Lib.hid (heap_lift HBP.out hB3)
            replace HBQ := Lib.hid (heap_lift HBQ.out hB3)
            replace HBR := Lib.hid (below_then HBR.out hB3)
            clear hw3 hB3 hne z1 z3 p1 q1 HC
            have r0 := heap_cell HBP.out (j := 0) rfl
            have r1 := heap_cell HBP.out (j := 1) rfl
            have r2 := heap_cell HBQ.out (j := 0) rfl
            have r3 := heap_cell HBQ.out (j := 1) rfl
            have f0 := heap_frozen HBP.out 0
            have f1 := heap_frozen HBP.out 1
            have f2 := heap_frozen HBQ.out 0
            have f3 := heap_frozen HBQ.out 1
            go_wp2_with fail
            have hP := heap_far2 (show w.heap.size + 1 ≠ w.heap.size by omega) (heap_two HBP.out (.int .i64 e2) (.int .i64 y)) (.int .i64 e1) (.int .i64 x)
            have hQ := heap_two (heap_far2 (show w.heap.size ≠ w.heap.size + 1 by omega) HBQ.out (.int .i64 e2) (.int .i64 y)) (.int .i64 e1) (.int .i64 x)
            go_roundw
            case rel => exact ⟨e2, y, e1, x, ⟨by omega, g8, h1, by omega, by omega, g4, h0, by omega⟩, by rw [← HX.out, ← HY.out, Pure.le_rest_more HEQ.out]; exact HLE.out, hP, hQ, below_set2 (below_set2 HBR.out (Nat.le_refl _) _ _) (by omega) _ _⟩
            case measure => (rw [denN_of hP, denN_of hQ, HMP.out]; omega)
          · have hy0 : y = 0 := h1.symm
            subst hy0
            go_wp2_with fail
            go_ret
            refine ⟨?_, HBR.out⟩
            rw [← HLE.out, Pure.le_rest_no g3 g7 HEQ.out (by rw [HX.out]; omega) HY.out]
            rfl
        · have hx0 : x = 0 := h0.symm
          subst hx0
          go_wp2_with fail
          go_ret
          refine ⟨?_, HBR.out⟩
          rw [← HLE.out, Pure.le_rest_zero g3 g7 HEQ.out HX.out]
          rfl
    · have HEQ := Lib.hid hq
      have t1 : (n1 / e1 == n2 / e2) = false := by simp [hq]
      clear hq
      go_wp2_with fail
      go_quiet (fail)
      go_wp2_with fail
      go_quiet (fail)
      go_wp2_with fail
      go_ret
      refine ⟨?_, below_draws' HBR.out _ _⟩
      rw [← HLE.out]
      rcases Int.lt_or_gt_of_ne HEQ.out with h | h
      · rw [Pure.le_less g3 g7 h]
        exact ret_bool (decide_eq_true h)
      · rw [Pure.le_more g3 g7 h]
        exact ret_bool (decide_eq_false (by omega))

end Go.Proofs.Ytiiecehmldipmaa
