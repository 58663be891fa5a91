/-
  The contracts of the reference's Terms, and of off and the reference's off.
-/
import Derived.Test.YteckpbghmhelpaaTerms
namespace Go.Proofs.Yteckpbghmhelpaa
open Go.RowKit

set_option maxHeartbeats 2000000 in
set_option maxRecDepth 100000 in
/-- **off**. -/
theorem off_any (a : Option Addr) (len cap : Nat) (F P : Nat → Int) (o f : Int) (hok : Pure.okTerms len F P = true) (ho0 : 0 ≤ o) (ho : o ≤ 36) (hf0 : 0 ≤ f) (hf : f ≤ o) (w : World) (ht : TermsAt w a len F P) :
    Calls Try.prog 107 #[.slice a len cap, .agg #[.int .i64 o, .int .i64 f]] w fun e w' => e = .returned (.int .i64 (Pure.off len F P o f)) ∧ Below w.heap.size w w' := by
  have HT := Lib.hid ht
  have hok2 : len ≤ 5 ∧ ∀ j, j < len → Pure.fits F P j := by unfold Pure.okTerms at hok; simpa using hok
  obtain ⟨h5, hfit⟩ := hok2
  have HF := Lib.hid hfit
  clear ht hok hfit
  by_cases hz : o = 0 ∧ f = 0
  · obtain ⟨rfl, rfl⟩ := hz
    go_enter Try.func107, Try.ntmps107
    go_wp2_with fail
    go_ret
    exact ⟨ret_int (by unfold Pure.off; simp), (Below.refl _ _).alloc (Nat.le_refl _) _⟩
  · have ho1 : o ≠ 0 := by omega
    have hne : (o == 0) = false := by simpa using ho1
    have HZ : Hid (Pure.off len F P o f = Pure.offTo F P o f len) := Lib.hid (by unfold Pure.off; rw [if_neg hz])
    have hB0 : Below w.heap.size w (w.alloc (.cells #[.int .i64 o, .int .i64 f] 27)) := (Below.refl _ _).alloc (Nat.le_refl _) _
    have HB0 := Lib.hid hB0
    clear hB0 hz ho1
    go_enter Try.func107, Try.ntmps107
    go_wp2_with fail
    go_loopw [5, 13] (fun p i wr => ∃ k : Nat, k ≤ len ∧ i = .int .i64 k ∧ p = .int .i64 (Pure.offTo F P o f k) ∧ Below w.heap.size w wr ∧ wr.cell? ⟨w.heap.size, 0, none⟩ = some (.int .i64 o) ∧ wr.cell? ⟨w.heap.size, 1, none⟩ = some (.int .i64 f)) (fun _ i _ => len - (intOf i).toNat)
    case atStart => exact ⟨0, Nat.zero_le _, rfl, rfl, HB0.out, cells_top _ _ _ rfl 0, cells_top _ _ _ rfl 1⟩
    case round =>
      obtain ⟨k, hk, rfl, rfl, hB, c0, c1⟩ := hrel
      by_cases hk1 : k < len
      · obtain ⟨b, off, rfl, g0, g1⟩ := HT.out k hk1
        have e0 := below_cell hB g0
        have e1 := below_cell hB g1
        obtain ⟨p1, p2, p3, p4, _⟩ := HF.out k hk1
        obtain ⟨m1, m2⟩ := Pure.mul_span (by omega : 0 ≤ F k) p2 ho0 ho
        obtain ⟨W3, hW3⟩ : ∃ W3, wr.alloc (.cells #[.int .i64 (F k), .int .i64 (P k)] 172) = W3 := ⟨_, rfl⟩
        have hB3 : Below wr.heap.size wr W3 := by rw [← hW3]; exact (Below.refl _ _).alloc (Nat.le_refl _) _
        have t0 : W3.cell? ⟨wr.heap.size, 0, none⟩ = some (.int .i64 (F k)) := by rw [← hW3]; exact cells_top _ _ _ rfl 0
        have t1 : W3.cell? ⟨wr.heap.size, 1, none⟩ = some (.int .i64 (P k)) := by rw [← hW3]; exact cells_top _ _ _ rfl 1
        have d0 := below_cell hB3 c0
        have d1 := below_cell hB3 c1
        have HB3 : Hid (Below w.heap.size w W3) := Lib.hid (hB.trans (hB3.mono hB.size))
        by_cases hy : F k * o ≤ f * 100
        · have HY := Lib.hid (Pure.offTo_yes (P := P) hy)
          clear hB hB3 g0 g1
          go_wp2_with fail
          go_roundw
          case rel => exact ⟨k + 1, by omega, by go_num, by rw [HY.out], HB3.out, d0, d1⟩
          case measure => simp [intOf]; omega
        · have HY := Lib.hid (Pure.offTo_no (P := P) hy)
          have hy1 : f * 100 < F k * o := by omega
          clear hB hB3 g0 g1 hy
          go_wp2_with fail
          go_roundw
          case rel => exact ⟨k + 1, by omega, by go_num, by rw [HY.out], HB3.out, d0, d1⟩
          case measure => simp [intOf]; omega
      · obtain rfl : k = len := by omega
        go_wp2_with fail
        go_ret
        exact ⟨ret_int (by rw [HZ.out]), hB⟩

set_option maxHeartbeats 2000000 in
set_option maxRecDepth 100000 in
/-- The reference's off. -/
theorem rOff_any (a : Option Addr) (len cap : Nat) (F P : Nat → Int) (o f : Int) (hok : Pure.okTerms len F P = true) (ho0 : 0 ≤ o) (ho : o ≤ 36) (hf0 : 0 ≤ f) (hf : f ≤ o) (w : World) (ht : TermsAt w a len F P) :
    Calls Try.prog 109 #[.slice a len cap, .int .i64 o, .int .i64 f] w fun e w' => e = .returned (.int .i64 (Pure.off len F P o f)) ∧ w = w' := by
  have HT := Lib.hid ht
  have hok2 : len ≤ 5 ∧ ∀ j, j < len → Pure.fits F P j := by unfold Pure.okTerms at hok; simpa using hok
  obtain ⟨h5, hfit⟩ := hok2
  have HF := Lib.hid hfit
  clear ht hok hfit
  by_cases hz : o = 0
  · subst hz
    obtain rfl : f = 0 := by omega
    go_enter Try.func109, Try.ntmps109
    go_wp2_with fail
    go_loop [7, 8] (fun p i => ∃ k : Nat, k ≤ len ∧ i = .int .i64 k ∧ p = .int .i64 0) (fun _ i => len - (intOf i).toNat)
    case atStart => exact ⟨0, Nat.zero_le _, rfl, rfl⟩
    case round =>
      obtain ⟨k, hk, rfl, rfl⟩ := hrel
      by_cases hk1 : k < len
      · go_wp2_with fail
        go_round
        case rel => exact ⟨k + 1, by omega, by go_num, rfl⟩
        case measure => simp [intOf]; omega
      · obtain rfl : k = len := by omega
        go_wp2_with fail
        go_ret
        exact ⟨ret_int (by unfold Pure.off; simp), rfl⟩
  · have ho1 : 0 < o := by omega
    have HZ : Hid (Pure.off len F P o f = Pure.offTo F P o f len) := Lib.hid (by unfold Pure.off; rw [if_neg (by omega)])
    clear hz
    go_enter Try.func109, Try.ntmps109
    go_wp2_with fail
    go_loop [7, 8] (fun p i => ∃ k : Nat, k ≤ len ∧ i = .int .i64 k ∧ p = .int .i64 (Pure.offTo F P o f k)) (fun _ i => len - (intOf i).toNat)
    case atStart => exact ⟨0, Nat.zero_le _, rfl, rfl⟩
    case round =>
      obtain ⟨k, hk, rfl, rfl⟩ := hrel
      by_cases hk1 : k < len
      · obtain ⟨b, off, rfl, g0, g1⟩ := HT.out k hk1
        obtain ⟨p1, p2, p3, p4, _⟩ := HF.out k hk1
        obtain ⟨m1, m2⟩ := Pure.mul_span (by omega : 0 ≤ F k) p2 ho0 ho
        by_cases hy : F k * o ≤ f * 100
        · have HY := Lib.hid (Pure.offTo_yes (P := P) hy)
          have hy1 : F k * o ≤ 100 * f := by omega
          clear hy
          go_wp2_with fail
          go_round
          case rel => exact ⟨k + 1, by omega, by go_num, by rw [HY.out]⟩
          case measure => simp [intOf]; omega
        · have HY := Lib.hid (Pure.offTo_no (P := P) hy)
          have hy1 : 100 * f < F k * o := by omega
          clear hy
          go_wp2_with fail
          go_round
          case rel => exact ⟨k + 1, by omega, by go_num, by rw [HY.out]⟩
          case measure => simp [intOf]; omega
      · obtain rfl : k = len := by omega
        go_wp2_with fail
        go_ret
        exact ⟨ret_int (by rw [HZ.out]), rfl⟩

end Go.Proofs.Yteckpbghmhelpaa
