/-
  The contract of the specification's Water.
-/
import Derived.Test.YtacdbjandcdejaaZPure
namespace Go.Proofs.Ytacdbjandcdejaa
open Go.RowKit

set_option maxHeartbeats 8000000 in
set_option maxRecDepth 100000 in
theorem rWater_any (p : PlanX) (a : Option Addr) (m c : Nat) (F : Nat → Int) (b : Int) (_hn : p.tn ≤ 40) (hm : m ≤ 40) (w : World) (h : NumsAt w a m F) :
    Calls Try.prog 23 #[planV p, .slice a m c, .int .i64 b] w fun e w' => e = .returned (.bool (Pure.waterB p.tn m F b)) ∧ Below w.heap.size w w' := by
  obtain ⟨W, hW⟩ : ∃ W, w.alloc (planB p) = W := ⟨_, rfl⟩
  have HB : Hid (Below w.heap.size w W) := Lib.hid (by rw [← hW]; exact below_new _ _)
  have HX : Hid (W.heap[w.heap.size]? = some (planB p)) := Lib.hid (by rw [← hW]; exact heap_top _ _ rfl)
  have HP := Lib.hid (h.below HB.out)
  clear h
  obtain ⟨q, hq⟩ : ∃ q, Pure.waterB p.tn m F b = q := ⟨_, rfl⟩
  rw [hq]
  have HQ := Lib.hid hq
  clear hq
  have x1 := heap_cell HX.out (j := 1) rfl
  go_enter Try.func23, Try.ntmps23
  go_upto_region 1 with fail
  try rw [hW]
  clear hW
  by_cases hmn : m = p.tn
  rotate_left
  · have hr0 : ((m : Int) != (p.tn : Int)) = true := by simp; omega
    obtain rfl : q = false := by rw [← HQ.out]; exact Pure.waterB_no fun g => hmn g.1
    clear hmn
    go_wp2_with fail
    go_ret
    exact ⟨rfl, HB.out⟩
  · have hr0 : ((m : Int) != (p.tn : Int)) = false := by simp; omega
    obtain ⟨r2, hr2⟩ : ∃ r, decide (1 ≤ b ∧ b ≤ 10000) = r := ⟨_, rfl⟩
    have HR2 := Lib.hid hr2
    have HMN := Lib.hid hmn
    clear hr2 hmn
    go_wp2_with fail
    refine (rWithinEG b 1 10000 r2 HR2.out _).mono ?_
    rintro e u ⟨rfl, rfl⟩
    cases r2
    · obtain rfl : q = false := by rw [← HQ.out]; exact Pure.waterB_no fun g => of_decide_eq_false HR2.out g.2.2
      go_wp2_with fail
      go_ret
      exact ⟨rfl, HB.out⟩
    · clear hr0 x1
      go_wp2_with fail
      go_loopw [6, 8, 22] (fun _ _ i wr => ∃ k : Nat, k ≤ m ∧ i = .int .i64 k ∧ (∀ j, j < k → 0 ≤ F j ∧ F j ≤ 100000) ∧ Below W.heap.size W wr) (fun _ _ i _ => m - (intOf i).toNat)
      case atStart => exact ⟨0, Nat.zero_le _, rfl, fun j hj => by omega, Below.refl _ _⟩
      case round =>
        obtain ⟨k, hk, rfl, hg, hb⟩ := hrel
        have HK := Lib.hid hg
        have HBk := Lib.hid hb
        clear hg hb
        by_cases hk1 : k < m
        · obtain ⟨b', off', rfl, _⟩ := HP.out k hk1
          have n1 : (k : Int) < m := by omega
          have d0 := (HP.out.below HBk.out).at hk1
          obtain ⟨r3, hr3⟩ : ∃ r, decide (0 ≤ F k ∧ F k ≤ 100000) = r := ⟨_, rfl⟩
          have HR3 := Lib.hid hr3
          clear hr3
          go_wp2_with fail
          refine (rWithinEG (F k) 0 100000 r3 HR3.out _).mono ?_
          rintro e u ⟨rfl, rfl⟩
          cases r3
          · obtain rfl : q = false := by rw [← HQ.out]; exact Pure.waterB_no fun g => of_decide_eq_false HR3.out (g.2.1 k hk1)
            go_wp2_with fail
            go_ret
            exact ⟨rfl, below_thn HB.out HBk.out⟩
          · go_wp2_with fail
            go_roundw
            case rel => exact ⟨k + 1, by omega, by go_num, fun j hj => by
              by_cases e : j = k
              · subst e
                exact of_decide_eq_true HR3.out
              · exact HK.out j (by omega), HBk.out⟩
            case measure => simp [intOf]; omega
        · obtain rfl : k = m := by omega
          obtain rfl : q = true := by rw [← HQ.out]; exact Pure.waterB_iff.2 ⟨HMN.out, HK.out, of_decide_eq_true HR2.out⟩
          go_wp2_with fail
          go_ret
          exact ⟨rfl, below_thn HB.out HBk.out⟩

end Go.Proofs.Ytacdbjandcdejaa
