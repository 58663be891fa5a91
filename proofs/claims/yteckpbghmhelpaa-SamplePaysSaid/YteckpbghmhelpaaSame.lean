/-
  The contract of SameTerms, where two slices hold the same terms.
-/
import Derived.Test.YteckpbghmhelpaaTerms
import Derived.Deep.QuietTactic
namespace Go.Proofs.Yteckpbghmhelpaa
open Go.RowKit

set_option maxHeartbeats 2000000 in
set_option maxRecDepth 100000 in
/-- **SameTerms**. -/
theorem same_any (a a' : Option Addr) (len cap cap' : Nat) (F P : Nat → Int) (hl : len ≤ 12) (w : World) (ht : TermsAt w a len F P) (ht' : TermsAt w a' len F P) :
    Calls Try.prog 52 #[.slice a len cap, .slice a' len cap'] w fun e w' => e = .returned (.bool true) ∧ Below w.heap.size w w' := by
  have HT := Lib.hid ht
  have HT' := Lib.hid ht'
  clear ht ht'
  go_enter Try.func52, Try.ntmps52
  go_wp2_with fail
  go_loopw [5] (fun i wr => ∃ k : Nat, k ≤ len ∧ i = .int .i64 k ∧ Below w.heap.size w wr) (fun i _ => len - (intOf i).toNat)
  case atStart => exact ⟨0, Nat.zero_le _, rfl, Below.refl _ _⟩
  case round =>
    obtain ⟨k, hk, rfl, hB⟩ := hrel
    by_cases hk1 : k < len
    · obtain ⟨b, off, rfl, g0, g1⟩ := HT.out k hk1
      obtain ⟨b', off', rfl, g2, g3⟩ := HT'.out k hk1
      have e0 := below_cell hB g0
      have e1 := below_cell hB g1
      have e2 := below_cell hB g2
      have e3 := below_cell hB g3
      have hk2 : (k : Int) < len := by omega
      have x0 := among_below e0
      have x1 := among_below e1
      have x2 := among_below e2
      have x3 := among_below e3
      have HB := Lib.hid hB
      have HSt : Hid (Below wr.heap.size wr wr.drew) := Lib.hid (Below.refl _ _).drew
      have hne : Nonempty (Among (Below wr.heap.size wr)) := ⟨⟨_, HSt.out⟩⟩
      clear hB g0 g1 g2 g3 e0 e1 e2 e3
      go_wp2_with fail
      refine wp_region_class (Below wr.heap.size wr) (by kernel_rfl) (by kernel_rfl) HSt.out ?_
      repeat (go_big_quiet_step (fail))
      refine wpQuiet_nil ?_
      intro w3 hx
      have hB3 := among_out hx
      clear hx hne x0 x1 x2 x3
      have HB3 : Hid (Below w.heap.size w w3) := Lib.hid (HB.out.trans (hB3.mono HB.out.size))
      clear hB3
      go_wp2_with fail
      go_roundw
      case rel => exact ⟨k + 1, by omega, by go_num, HB3.out⟩
      case measure => simp [intOf]; omega
    · obtain rfl : k = len := by omega
      go_wp2_with fail
      go_ret
      exact ⟨rfl, hB⟩

end Go.Proofs.Yteckpbghmhelpaa
