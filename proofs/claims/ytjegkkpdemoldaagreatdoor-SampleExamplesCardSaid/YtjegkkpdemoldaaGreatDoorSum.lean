/-
  The contract of sum: what each set of so many bags is worth, added up.
-/
import Derived.Test.YtjegkkpdemoldaaGreatDoorHold
namespace Go.Proofs.YtjegkkpdemoldaaGreatDoor
open Go.RowKit

namespace Pure
/-- What the sets with fewer than k dirty bags are worth. -/
def sumTo (b d o : Int) (f : Int → Int) : Nat → Int
  | 0 => 0
  | k + 1 => sumTo b d o f k + ways b d o k * f k
def sum (b d o : Int) (f : Int → Int) : Int := sumTo b d o f (o + 1).toNat
theorem sumTo_succ (b d o : Int) (f : Int → Int) (k : Nat) : sumTo b d o f (k + 1) = sumTo b d o f k + ways b d o k * f k := rfl
theorem sumTo_nonneg {b d o : Int} {f : Int → Int} {n : Nat} (h : ∀ j : Nat, j < n → 0 ≤ f j) : ∀ k : Nat, k ≤ n → 0 ≤ sumTo b d o f k
  | 0, _ => Int.le_refl _
  | k + 1, hk => by
    rw [sumTo_succ]
    have h1 := sumTo_nonneg (b := b) (d := d) (o := o) h k (by omega)
    have h2 := Int.mul_nonneg (ways_nonneg b d o k) (h k (by omega))
    omega
theorem sumTo_le {b d o : Int} {f : Int → Int} {n : Nat} {B : Int} (h : ∀ j : Nat, j < n → ways b d o j * f j ≤ B) : ∀ k : Nat, k ≤ n → sumTo b d o f k ≤ k * B
  | 0, _ => by simp [sumTo]
  | k + 1, hk => by
    rw [sumTo_succ]
    have h1 := sumTo_le (b := b) (d := d) (o := o) h k (by omega)
    have h2 := h k (by omega)
    have e : ((k + 1 : Nat) : Int) * B = k * B + B := by rw [Int.natCast_add, Int.add_mul]; simp
    omega
end Pure

set_option maxHeartbeats 2000000 in
set_option maxRecDepth 100000 in
/-- **sum**. -/
theorem sum_any {M T C : Nat} (b lo hi d o : Int) (hb0 : 0 ≤ b) (hb : b ≤ 36) (hd0 : -36 ≤ d) (hd : d ≤ 36) (hbd : b - d ≤ 36) (ho0 : 0 ≤ o) (ho : o ≤ 36)
    (g : Nat) (caps : Array Value) (f : Int → Int) (w : World) (hw : Cnt w M T C)
    (hg : ∀ (args : Array Value) (w : World), (callFunc g args).run Tryz.prog w = .ok (.enter g args) w)
    (hworth : ∀ W, Step M w W → ∀ j : Nat, (j : Int) ≤ o → Calls Tryz.prog g (#[.agg #[.int .i64 o, .int .i64 j]] ++ caps) W fun e W' => e = .returned (.int .i64 (f j)) ∧ Step M W W')
    (hbound : ∀ j : Nat, (j : Int) ≤ o → 0 ≤ f j ∧ Pure.ways b d o j * f j ≤ 249280325320399346) :
    Calls Tryz.prog 36 #[holdV b lo hi T C, .int .i64 d, .int .i64 o, .func (.func g) #[] caps] w fun e w' => e = .returned (.int .i64 (Pure.sum b d o f)) ∧ Step M w w' := by
  have HG := Lib.hid hg
  have HWO := Lib.hid hworth
  have HBO := Lib.hid hbound
  have HW := Lib.hid hw
  clear hworth hbound hw
  go_enter Tryz.func36, Tryz.ntmps36
  go_wp2_with fail
  obtain ⟨n, rfl⟩ : ∃ n : Nat, o = n := ⟨o.toNat, by omega⟩
  go_loopw [9, 10, 11, 14] (fun a _ _ i wr => ∃ k : Nat, k ≤ n + 1 ∧ i = .int .i64 k ∧ a = .int .i64 (Pure.sumTo b d n f k) ∧ Step M (w.alloc (.cells #[.int .i64 b, .int .i64 lo, .int .i64 hi, setsV T C] 82)) wr) (fun _ _ _ i _ => n + 1 - (intOf i).toNat)
  case atStart => exact ⟨0, Nat.zero_le _, rfl, rfl, Step.refl (HW.out.memo.alloc _)⟩
  case round =>
    obtain ⟨k, hk, rfl, rfl, hs⟩ := hrel
    have HS := Lib.hid hs
    clear hs
    by_cases hk1 : k < n + 1
    · have hB0 := Cnt.alloc HW.out (.cells #[.int .i64 b, .int .i64 lo, .int .i64 hi, setsV T C] 82)
      have hn0 := cells_top w #[.int .i64 b, .int .i64 lo, .int .i64 hi, setsV T C] 82 rfl
      obtain ⟨W1, hW1⟩ : ∃ W1, wr.alloc (.cells #[.int .i64 n, .int .i64 k] 37) = W1 := ⟨_, rfl⟩
      have HS1 : Hid (Step M (w.alloc (.cells #[.int .i64 b, .int .i64 lo, .int .i64 hi, setsV T C] 82)) W1) := by rw [← hW1]; exact Lib.hid (HS.out.alloc _)
      have HW1 : Hid (Cnt W1 M T C) := Lib.hid (hB0.step HS1.out)
      have e : ∀ j v, (#[Value.int .i64 b, .int .i64 lo, .int .i64 hi, setsV T C])[j]? = some v → W1.cell? ⟨w.heap.size, j, none⟩ = some v := fun j v h =>
        HS1.out.cell ((hn0 j).trans h) (by have := HW.out.memo.lt; simp; omega)
      have x0 := among_cell HW1.out.memo (e 0 _ rfl)
      have x1 := among_cell HW1.out.memo (e 1 _ rfl)
      have x2 := among_cell HW1.out.memo (e 2 _ rfl)
      have x3 := among_cell HW1.out.memo (e 3 _ rfl)
      have g0 : W1.cell? ⟨wr.heap.size, 0, none⟩ = some (.int .i64 n) := by rw [← hW1]; exact cells_top _ _ _ rfl 0
      have g1 : W1.cell? ⟨wr.heap.size, 1, none⟩ = some (.int .i64 k) := by rw [← hW1]; exact cells_top _ _ _ rfl 1
      have y0 := among_cell HW1.out.memo g0
      have y1 := among_cell HW1.out.memo g1
      have HC1 : Hid (∀ x : Among (Step M W1), Calls Tryz.prog 60 #[holdV b lo hi T C, .int .i64 d, .agg #[.int .i64 n, .int .i64 k]] x.val fun e w' => e = .returned (.int .i64 (Pure.ways b d n k)) ∧ ∃ y : Among (Step M W1), w' = y.val) :=
        Lib.hid (fun x => calls_class ((ways_any b lo hi d n k hb0 hb hd0 hd hbd ho0 ho (by omega) (by omega) x.val (HW1.out.step x.ok)).mono fun e w' h => ⟨h.1, x.ok.trans h.2⟩))
      have HC2 : Hid (∀ x : Among (Step M W1), Calls Tryz.prog g (#[.agg #[.int .i64 n, .int .i64 k]] ++ caps) x.val fun e w' => e = .returned (.int .i64 (f k)) ∧ ∃ y : Among (Step M W1), w' = y.val) :=
        Lib.hid (fun x => calls_class ((HWO.out x.val (((Step.refl HW.out.memo).alloc _).trans (HS1.out.trans x.ok)) k (by omega)).mono fun e w' h => ⟨h.1, x.ok.trans h.2⟩))
      have HSt : Hid (Step M W1 W1.drew) := Lib.hid (Step.refl HW1.out.memo).drew
      have hne : Nonempty (Among (Step M W1)) := ⟨⟨_, HSt.out⟩⟩
      have q1 := HBO.out k (by omega)
      have q2 : 0 ≤ Pure.ways b d n k * f k := Int.mul_nonneg (Pure.ways_nonneg _ _ _ _) q1.1
      have q3 := q1.2
      have q4 : 0 ≤ Pure.sumTo b d n f k := Pure.sumTo_nonneg (n := n + 1) (fun j hj => (HBO.out j (by omega)).1) k hk
      have q5 := Pure.sumTo_le (n := n + 1) (B := 249280325320399346) (fun j hj => (HBO.out j (by omega)).2) k hk
      have q6 : Pure.sumTo b d n f k ≤ 8974091711534376456 := by omega
      clear q1 q5 e g0 g1 hB0 hn0
      go_wp2_with fail
      clear hW1
      refine wp_region_class (Step M W1) (by kernel_rfl) (by kernel_rfl) HSt.out ?_
      repeat (go_big_quiet_step ((first | (go_at_call 60; exact HC1.out _) | exact HC2.out _)))
      refine wpQuiet_nil ?_
      intro w2 hx
      have hS2 := among_out hx
      clear hx
      have HS2 := Lib.hid hS2
      clear hS2 hne x0 x1 x2 x3 y0 y1
      go_wp2_with fail
      go_roundw
      case rel => exact ⟨k + 1, by omega, by go_num, rfl, HS1.out.trans HS2.out⟩
      case measure => simp [intOf]; omega
    · obtain rfl : k = n + 1 := by omega
      go_wp2_with fail
      go_ret
      exact ⟨ret_int (by unfold Pure.sum; congr 1), ((Step.refl HW.out.memo).alloc _).trans HS.out⟩

end Go.Proofs.YtjegkkpdemoldaaGreatDoor
