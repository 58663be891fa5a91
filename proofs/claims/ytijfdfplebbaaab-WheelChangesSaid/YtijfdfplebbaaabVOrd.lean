/-
  The contracts of IndexFunc and ContainsFunc over slices of stampers.
-/
import Derived.Test.YtijfdfplebbaaabVBase
namespace Go.Proofs.Ytijfdfplebbaaab
open Go.RowKit

set_option maxHeartbeats 1000000 in
set_option maxRecDepth 100000 in
theorem indexPounds_any (a : Option Addr) (len cap : Nat) (F : Nat → Int) (q : Nat → Bool) (hl : len ≤ 40) (w : World) (h : NumsAt w a (len * 3) F) (hp : ∀ u j, j < len → Below w.heap.size w u → Calls Try.prog 35 #[.agg #[.int .i64 (F (j * 3)), .int .i64 (F (j * 3 + 1)), .int .i64 (F (j * 3 + 2))]] u fun e u' => e = .returned (.bool (q j)) ∧ Below u.heap.size u u') :
    Calls Try.prog 36 #[.slice a len cap, .func (.func 35) #[] #[]] w fun e w' => e = .returned (.int .i64 (Pure.firstAt q len)) ∧ Below w.heap.size w w' := by
  have HN := Lib.hid h
  have HP := Lib.hid hp
  clear h hp
  go_enter Try.func36, Try.ntmps36
  go_wp2_with fail
  go_loopw [5, 8] (fun _ i wr => ∃ k : Nat, k ≤ len ∧ i = .int .i64 k ∧ (∀ j, j < k → q j = false) ∧ Below w.heap.size w wr) (fun _ i _ => len - (intOf i).toNat)
  case atStart => exact ⟨0, Nat.zero_le _, rfl, fun j hj => by omega, Below.refl _ _⟩
  case round =>
    obtain ⟨k, hk, rfl, hq, hb⟩ := hrel
    have HQ := Lib.hid hq
    have HB := Lib.hid hb
    clear hq hb
    by_cases hk1 : k < len
    · obtain ⟨b, off, rfl, _⟩ := HN.out (k * 3) (by omega)
      have c0 := (HN.out.below HB.out).at (show k * 3 < len * 3 by omega)
      have c1 := nums_row (HN.out.below HB.out) (show k * 3 + 1 < len * 3 by omega)
      have c2 := nums_row (HN.out.below HB.out) (show k * 3 + 2 < len * 3 by omega)
      have hcl := HP.out wr k hk1 HB.out
      have HC := Lib.hid hcl
      clear hcl
      cases hqk : q k with
      | true =>
        rw [hqk] at HC
        go_wp2_with (go_at_call 35; refine HC.out.mono ?_; rintro e u ⟨rfl, hb2⟩)
        go_ret
        exact ⟨ret_int (Pure.firstAt_hit hk1 HQ.out hqk).symm, below_thn HB.out hb2⟩
      | false =>
        rw [hqk] at HC
        go_wp2_with (go_at_call 35; refine HC.out.mono ?_; rintro e u ⟨rfl, hb2⟩)
        go_roundw
        case rel => exact ⟨k + 1, by omega, by go_num, fun j hj => by
          by_cases e : j = k
          · subst e; exact hqk
          · exact HQ.out j (by omega), below_thn HB.out hb2⟩
        case measure => simp [intOf]; omega
    · obtain rfl : k = len := by omega
      go_wp2_with fail
      go_ret
      exact ⟨ret_int (Pure.firstAt_none HQ.out).symm, HB.out⟩

set_option maxHeartbeats 1000000 in
set_option maxRecDepth 100000 in
theorem containsPounds_any (a : Option Addr) (len cap : Nat) (F : Nat → Int) (q : Nat → Bool) (hl : len ≤ 40) (w : World) (h : NumsAt w a (len * 3) F) (hp : ∀ u j, j < len → Below w.heap.size w u → Calls Try.prog 35 #[.agg #[.int .i64 (F (j * 3)), .int .i64 (F (j * 3 + 1)), .int .i64 (F (j * 3 + 2))]] u fun e u' => e = .returned (.bool (q j)) ∧ Below u.heap.size u u') :
    Calls Try.prog 33 #[.slice a len cap, .func (.func 35) #[] #[]] w fun e w' => e = .returned (.bool ((List.range len).any q)) ∧ Below w.heap.size w w' := by
  go_enter Try.func33, Try.ntmps33
  go_wp2_with fail
  refine (indexPounds_any a len cap F q hl w h hp).mono ?_
  rintro e u ⟨rfl, hb⟩
  have HF := Lib.hid (Pure.firstAt_some (q := q) (len := len))
  obtain ⟨x, hx⟩ : ∃ x, Pure.firstAt q len = x := ⟨_, rfl⟩
  rw [hx] at HF ⊢
  clear hx
  go_wp2_with fail
  go_ret
  exact ⟨ret_bool HF.out, hb⟩

set_option maxHeartbeats 1000000 in
set_option maxRecDepth 100000 in
theorem indexCams_any (B : Nat) (a : Option Addr) (len cap : Nat) (F : Nat → Int) (q : Nat → Bool) (hl : len ≤ 40) (w : World) (h : NumsAt w a (len * 3) F) (hp : ∀ u j, j < len → Below w.heap.size w u → Calls Try.prog 34 #[.agg #[.int .i64 (F (j * 3)), .int .i64 (F (j * 3 + 1)), .int .i64 (F (j * 3 + 2))], .pointer (some ⟨B, 0, none⟩)] u fun e u' => e = .returned (.bool (q j)) ∧ Below u.heap.size u u') :
    Calls Try.prog 36 #[.slice a len cap, .func (.func 34) #[] #[.pointer (some ⟨B, 0, none⟩)]] w fun e w' => e = .returned (.int .i64 (Pure.firstAt q len)) ∧ Below w.heap.size w w' := by
  have HN := Lib.hid h
  have HP := Lib.hid hp
  clear h hp
  go_enter Try.func36, Try.ntmps36
  go_wp2_with fail
  go_loopw [5, 8] (fun _ i wr => ∃ k : Nat, k ≤ len ∧ i = .int .i64 k ∧ (∀ j, j < k → q j = false) ∧ Below w.heap.size w wr) (fun _ i _ => len - (intOf i).toNat)
  case atStart => exact ⟨0, Nat.zero_le _, rfl, fun j hj => by omega, Below.refl _ _⟩
  case round =>
    obtain ⟨k, hk, rfl, hq, hb⟩ := hrel
    have HQ := Lib.hid hq
    have HB := Lib.hid hb
    clear hq hb
    by_cases hk1 : k < len
    · obtain ⟨b, off, rfl, _⟩ := HN.out (k * 3) (by omega)
      have c0 := (HN.out.below HB.out).at (show k * 3 < len * 3 by omega)
      have c1 := nums_row (HN.out.below HB.out) (show k * 3 + 1 < len * 3 by omega)
      have c2 := nums_row (HN.out.below HB.out) (show k * 3 + 2 < len * 3 by omega)
      have hcl := HP.out wr k hk1 HB.out
      have HC := Lib.hid hcl
      clear hcl
      cases hqk : q k with
      | true =>
        rw [hqk] at HC
        go_wp2_with (go_at_call 34; refine HC.out.mono ?_; rintro e u ⟨rfl, hb2⟩)
        go_ret
        exact ⟨ret_int (Pure.firstAt_hit hk1 HQ.out hqk).symm, below_thn HB.out hb2⟩
      | false =>
        rw [hqk] at HC
        go_wp2_with (go_at_call 34; refine HC.out.mono ?_; rintro e u ⟨rfl, hb2⟩)
        go_roundw
        case rel => exact ⟨k + 1, by omega, by go_num, fun j hj => by
          by_cases e : j = k
          · subst e; exact hqk
          · exact HQ.out j (by omega), below_thn HB.out hb2⟩
        case measure => simp [intOf]; omega
    · obtain rfl : k = len := by omega
      go_wp2_with fail
      go_ret
      exact ⟨ret_int (Pure.firstAt_none HQ.out).symm, HB.out⟩

set_option maxHeartbeats 1000000 in
set_option maxRecDepth 100000 in
theorem containsCams_any (B : Nat) (a : Option Addr) (len cap : Nat) (F : Nat → Int) (q : Nat → Bool) (hl : len ≤ 40) (w : World) (h : NumsAt w a (len * 3) F) (hp : ∀ u j, j < len → Below w.heap.size w u → Calls Try.prog 34 #[.agg #[.int .i64 (F (j * 3)), .int .i64 (F (j * 3 + 1)), .int .i64 (F (j * 3 + 2))], .pointer (some ⟨B, 0, none⟩)] u fun e u' => e = .returned (.bool (q j)) ∧ Below u.heap.size u u') :
    Calls Try.prog 33 #[.slice a len cap, .func (.func 34) #[] #[.pointer (some ⟨B, 0, none⟩)]] w fun e w' => e = .returned (.bool ((List.range len).any q)) ∧ Below w.heap.size w w' := by
  go_enter Try.func33, Try.ntmps33
  go_wp2_with fail
  refine (indexCams_any B a len cap F q hl w h hp).mono ?_
  rintro e u ⟨rfl, hb⟩
  have HF := Lib.hid (Pure.firstAt_some (q := q) (len := len))
  obtain ⟨x, hx⟩ : ∃ x, Pure.firstAt q len = x := ⟨_, rfl⟩
  rw [hx] at HF ⊢
  clear hx
  go_wp2_with fail
  go_ret
  exact ⟨ret_bool HF.out, hb⟩

end Go.Proofs.Ytijfdfplebbaaab
