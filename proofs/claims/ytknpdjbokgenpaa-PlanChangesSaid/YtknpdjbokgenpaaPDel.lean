/-
  The contract of IndexFunc with the closure that finds a sale by its Id.
-/
import Derived.Test.YtknpdjbokgenpaaPSpoil
namespace Go.Proofs.Ytknpdjbokgenpaa
open Go.RowKit

theorem byId_any (B : Nat) (id i s l d : Int) (t : TypeId) (w : World) (hB : w.heap[B]? = some (.cells #[.int .i64 id] t)) :
    Calls Try.prog 25 #[saleV i s l d, .pointer (some ⟨B, 0, none⟩)] w fun e w' => e = .returned (.bool (i == id)) ∧ Below w.heap.size w w' := by
  have k0 := heap_cell (heap_up hB (saleB i s l d)) (j := 0) rfl
  go_enter Try.func25, Try.ntmps25
  go_wp2_with fail
  go_ret
  exact ⟨rfl, below_new _ _⟩

set_option maxHeartbeats 1000000 in
set_option maxRecDepth 100000 in
theorem indexDel_any (B : Nat) (a : Option Addr) (len cap : Nat) (F : Nat → Int) (q : Nat → Bool) (hl : len ≤ 40) (w : World) (h : NumsAt w a (len * 4) F) (hp : ∀ u j, j < len → Below w.heap.size w u → Calls Try.prog 25 #[.agg #[.int .i64 (F (j * 4)), .int .i64 (F (j * 4 + 1)), .int .i64 (F (j * 4 + 2)), .int .i64 (F (j * 4 + 3))], .pointer (some ⟨B, 0, none⟩)] u fun e u' => e = .returned (.bool (q j)) ∧ Below u.heap.size u u') :
    Calls Try.prog 39 #[.slice a len cap, .func (.func 25) #[] #[.pointer (some ⟨B, 0, none⟩)]] w fun e w' => e = .returned (.int .i64 (Pure.firstAt q len)) ∧ Below w.heap.size w w' := by
  have HN := Lib.hid h
  have HP := Lib.hid hp
  clear h hp
  go_enter Try.func39, Try.ntmps39
  go_wp2_with fail
  go_loopw [5, 8] (fun _ i wr => ∃ k : Nat, k ≤ len ∧ i = .int .i64 k ∧ (∀ j, j < k → q j = false) ∧ Below w.heap.size w wr) (fun _ i _ => len - (intOf i).toNat)
  case atStart => exact ⟨0, Nat.zero_le _, rfl, fun j hj => by omega, Below.refl _ _⟩
  case round =>
    obtain ⟨k, hk, rfl, hq, hb⟩ := hrel
    have HQ := Lib.hid hq
    have HB := Lib.hid hb
    clear hq hb
    by_cases hk1 : k < len
    · obtain ⟨b, off, rfl, _⟩ := HN.out (k * 4) (by omega)
      have c0 := (HN.out.below HB.out).at (show k * 4 < len * 4 by omega)
      have c1 := nums_row (HN.out.below HB.out) (show k * 4 + 1 < len * 4 by omega)
      have c2 := nums_row (HN.out.below HB.out) (show k * 4 + 2 < len * 4 by omega)
      have c3 := nums_row (HN.out.below HB.out) (show k * 4 + 3 < len * 4 by omega)
      have hcl := HP.out wr k hk1 HB.out
      have HC := Lib.hid hcl
      clear hcl
      cases hqk : q k with
      | true =>
        rw [hqk] at HC
        go_wp2_with (go_at_call 25; refine HC.out.mono ?_; rintro e u ⟨rfl, hb2⟩)
        go_ret
        exact ⟨ret_int (Pure.firstAt_hit hk1 HQ.out hqk).symm, below_thn HB.out hb2⟩
      | false =>
        rw [hqk] at HC
        go_wp2_with (go_at_call 25; refine HC.out.mono ?_; rintro e u ⟨rfl, hb2⟩)
        go_roundw
        case rel => exact ⟨k + 1, by omega, by go_num, fun j hj => by
          by_cases e : j = k
          · subst e; exact hqk
          · exact HQ.out j (by omega), below_thn HB.out hb2⟩
        case measure => simp [intOf]; omega
    · obtain rfl : k = len := by omega
      go_wp2_with fail
      go_ret
      exact ⟨ret_int (Pure.firstAt_none HQ.out).symm, HB.out⟩


end Go.Proofs.Ytknpdjbokgenpaa
