/-
  The contracts of IndexFunc, ContainsFunc and inOrder over slices of arrivals and of sales.
-/
import Derived.Test.YtacdbjandcdejaaPSmall
import Derived.Deep.CutRange
namespace Go.Proofs.Ytacdbjandcdejaa
open Go.RowKit

/-- A row of a slice of structs, cell by cell. -/
theorem nums_row {w : World} {b off n k i : Nat} {F : Nat → Int} (h : NumsAt w (some ⟨b, off, none⟩) n F) (hk : k + i < n) : w.cell? ⟨b, off + k + i, none⟩ = some (.int .i64 (F (k + i))) := by
  rw [Nat.add_assoc]
  exact h.at hk
namespace Pure
/-- The first place at which something is so; -1 if there is none. -/
def firstAt (q : Nat → Bool) (len : Nat) : Int := match (List.range len).find? q with
  | some j => j
  | none => -1
theorem firstAt_hit {q : Nat → Bool} {len k : Nat} (hk : k < len) (h : ∀ j, j < k → q j = false) (h1 : q k = true) : firstAt q len = k := by
  unfold firstAt
  have : (List.range len).find? q = some k := by
    rw [List.find?_range_eq_some]
    exact ⟨h1, List.mem_range.2 hk, fun j hj => by simp [h j hj]⟩
  rw [this]
theorem firstAt_none {q : Nat → Bool} {len : Nat} (h : ∀ j, j < len → q j = false) : firstAt q len = -1 := by
  unfold firstAt
  have : (List.range len).find? q = none := by
    rw [List.find?_eq_none]
    intro x hx
    simp [h x (List.mem_range.1 hx)]
  rw [this]
theorem firstAt_some {q : Nat → Bool} {len : Nat} : decide (0 ≤ firstAt q len) = (List.range len).any q := by
  unfold firstAt
  cases h : (List.range len).find? q with
  | some j =>
    have h1 := List.find?_some h
    have h2 := List.mem_of_find?_eq_some h
    have : (List.range len).any q = true := List.any_eq_true.2 ⟨j, h2, h1⟩
    rw [this]
    simp
  | none =>
    have : (List.range len).any q = false := by
      rw [List.any_eq_false]
      intro x hx
      exact List.find?_eq_none.1 h x hx
    rw [this]
    rfl
/-- Whether each may follow the one before it. -/
def inOrder (q : Nat → Bool) (len : Nat) : Bool := decide (∀ j, j < len - 1 → q j = true)
theorem inOrder_no {q : Nat → Bool} {len k : Nat} (h : k + 1 < len) (h1 : q k = false) : inOrder q len = false := by
  unfold inOrder
  exact decide_eq_false fun g => by rw [g k (by omega)] at h1; cases h1
theorem inOrder_yes {q : Nat → Bool} {len : Nat} (h : ∀ j, j < len - 1 → q j = true) : inOrder q len = true := decide_eq_true h
end Pure

set_option maxHeartbeats 1000000 in
set_option maxRecDepth 100000 in
theorem indexArr_any (B : Nat) (a : Option Addr) (len cap : Nat) (F : Nat → Int) (q : Nat → Bool) (hl : len ≤ 40) (w : World) (h : NumsAt w a (len * 2) F) (hp : ∀ u j, j < len → Below w.heap.size w u → Calls Try.prog 60 #[.agg #[.int .i64 (F (j * 2)), .int .i64 (F (j * 2 + 1))], .pointer (some ⟨B, 0, none⟩)] u fun e u' => e = .returned (.bool (q j)) ∧ Below u.heap.size u u') :
    Calls Try.prog 70 #[.slice a len cap, .func (.func 60) #[] #[.pointer (some ⟨B, 0, none⟩)]] w fun e w' => e = .returned (.int .i64 (Pure.firstAt q len)) ∧ Below w.heap.size w w' := by
  have HN := Lib.hid h
  have HP := Lib.hid hp
  clear h hp
  go_enter Try.func70, Try.ntmps70
  go_wp2_with fail
  go_loopw [5, 8] (fun _ i wr => ∃ k : Nat, k ≤ len ∧ i = .int .i64 k ∧ (∀ j, j < k → q j = false) ∧ Below w.heap.size w wr) (fun _ i _ => len - (intOf i).toNat)
  case atStart => exact ⟨0, Nat.zero_le _, rfl, fun j hj => by omega, Below.refl _ _⟩
  case round =>
    obtain ⟨k, hk, rfl, hq, hb⟩ := hrel
    have HQ := Lib.hid hq
    have HB := Lib.hid hb
    clear hq hb
    by_cases hk1 : k < len
    · obtain ⟨b, off, rfl, _⟩ := HN.out (k * 2) (by omega)
      have c0 := (HN.out.below HB.out).at (show k * 2 < len * 2 by omega)
      have c1 := nums_row (HN.out.below HB.out) (show k * 2 + 1 < len * 2 by omega)
      have hcl := HP.out wr k hk1 HB.out
      have HC := Lib.hid hcl
      clear hcl
      cases hqk : q k with
      | true =>
        rw [hqk] at HC
        go_wp2_with (go_at_call 60; refine HC.out.mono ?_; rintro e u ⟨rfl, hb2⟩)
        go_ret
        exact ⟨ret_int (Pure.firstAt_hit hk1 HQ.out hqk).symm, below_thn HB.out hb2⟩
      | false =>
        rw [hqk] at HC
        go_wp2_with (go_at_call 60; refine HC.out.mono ?_; rintro e u ⟨rfl, hb2⟩)
        go_roundw
        case rel => exact ⟨k + 1, by omega, by go_num, fun j hj => by
          by_cases e : j = k
          · subst e; exact hqk
          · exact HQ.out j (by omega), below_thn HB.out hb2⟩
        case measure => simp [intOf]; omega
    · obtain rfl : k = len := by omega
      go_wp2_with fail
      go_ret
      exact ⟨ret_int (Pure.firstAt_none HQ.out).symm, HB.out⟩

set_option maxHeartbeats 1000000 in
set_option maxRecDepth 100000 in
theorem containsArr_any (B : Nat) (a : Option Addr) (len cap : Nat) (F : Nat → Int) (q : Nat → Bool) (hl : len ≤ 40) (w : World) (h : NumsAt w a (len * 2) F) (hp : ∀ u j, j < len → Below w.heap.size w u → Calls Try.prog 60 #[.agg #[.int .i64 (F (j * 2)), .int .i64 (F (j * 2 + 1))], .pointer (some ⟨B, 0, none⟩)] u fun e u' => e = .returned (.bool (q j)) ∧ Below u.heap.size u u') :
    Calls Try.prog 62 #[.slice a len cap, .func (.func 60) #[] #[.pointer (some ⟨B, 0, none⟩)]] w fun e w' => e = .returned (.bool ((List.range len).any q)) ∧ Below w.heap.size w w' := by
  go_enter Try.func62, Try.ntmps62
  go_wp2_with fail
  refine (indexArr_any B a len cap F q hl w h hp).mono ?_
  rintro e u ⟨rfl, hb⟩
  have HF := Lib.hid (Pure.firstAt_some (q := q) (len := len))
  obtain ⟨x, hx⟩ : ∃ x, Pure.firstAt q len = x := ⟨_, rfl⟩
  rw [hx] at HF ⊢
  clear hx
  go_wp2_with fail
  go_ret
  exact ⟨ret_bool HF.out, hb⟩

set_option maxHeartbeats 1000000 in
set_option maxRecDepth 100000 in
theorem indexSale_any (B : Nat) (a : Option Addr) (len cap : Nat) (F : Nat → Int) (q : Nat → Bool) (hl : len ≤ 40) (w : World) (h : NumsAt w a (len * 4) F) (hp : ∀ u j, j < len → Below w.heap.size w u → Calls Try.prog 65 #[.agg #[.int .i64 (F (j * 4)), .int .i64 (F (j * 4 + 1)), .int .i64 (F (j * 4 + 2)), .int .i64 (F (j * 4 + 3))], .pointer (some ⟨B, 0, none⟩)] u fun e u' => e = .returned (.bool (q j)) ∧ Below u.heap.size u u') :
    Calls Try.prog 71 #[.slice a len cap, .func (.func 65) #[] #[.pointer (some ⟨B, 0, none⟩)]] w fun e w' => e = .returned (.int .i64 (Pure.firstAt q len)) ∧ Below w.heap.size w w' := by
  have HN := Lib.hid h
  have HP := Lib.hid hp
  clear h hp
  go_enter Try.func71, Try.ntmps71
  go_wp2_with fail
  go_loopw [5, 8] (fun _ i wr => ∃ k : Nat, k ≤ len ∧ i = .int .i64 k ∧ (∀ j, j < k → q j = false) ∧ Below w.heap.size w wr) (fun _ i _ => len - (intOf i).toNat)
  case atStart => exact ⟨0, Nat.zero_le _, rfl, fun j hj => by omega, Below.refl _ _⟩
  case round =>
    obtain ⟨k, hk, rfl, hq, hb⟩ := hrel
    have HQ := Lib.hid hq
    have HB := Lib.hid hb
    clear hq hb
    by_cases hk1 : k < len
    · obtain ⟨b, off, rfl, _⟩ := HN.out (k * 4) (by omega)
      have c0 := (HN.out.below HB.out).at (show k * 4 < len * 4 by omega)
      have c1 := nums_row (HN.out.below HB.out) (show k * 4 + 1 < len * 4 by omega)
      have c2 := nums_row (HN.out.below HB.out) (show k * 4 + 2 < len * 4 by omega)
      have c3 := nums_row (HN.out.below HB.out) (show k * 4 + 3 < len * 4 by omega)
      have hcl := HP.out wr k hk1 HB.out
      have HC := Lib.hid hcl
      clear hcl
      cases hqk : q k with
      | true =>
        rw [hqk] at HC
        go_wp2_with (go_at_call 65; refine HC.out.mono ?_; rintro e u ⟨rfl, hb2⟩)
        go_ret
        exact ⟨ret_int (Pure.firstAt_hit hk1 HQ.out hqk).symm, below_thn HB.out hb2⟩
      | false =>
        rw [hqk] at HC
        go_wp2_with (go_at_call 65; refine HC.out.mono ?_; rintro e u ⟨rfl, hb2⟩)
        go_roundw
        case rel => exact ⟨k + 1, by omega, by go_num, fun j hj => by
          by_cases e : j = k
          · subst e; exact hqk
          · exact HQ.out j (by omega), below_thn HB.out hb2⟩
        case measure => simp [intOf]; omega
    · obtain rfl : k = len := by omega
      go_wp2_with fail
      go_ret
      exact ⟨ret_int (Pure.firstAt_none HQ.out).symm, HB.out⟩

set_option maxHeartbeats 1000000 in
set_option maxRecDepth 100000 in
theorem containsSale_any (B : Nat) (a : Option Addr) (len cap : Nat) (F : Nat → Int) (q : Nat → Bool) (hl : len ≤ 40) (w : World) (h : NumsAt w a (len * 4) F) (hp : ∀ u j, j < len → Below w.heap.size w u → Calls Try.prog 65 #[.agg #[.int .i64 (F (j * 4)), .int .i64 (F (j * 4 + 1)), .int .i64 (F (j * 4 + 2)), .int .i64 (F (j * 4 + 3))], .pointer (some ⟨B, 0, none⟩)] u fun e u' => e = .returned (.bool (q j)) ∧ Below u.heap.size u u') :
    Calls Try.prog 66 #[.slice a len cap, .func (.func 65) #[] #[.pointer (some ⟨B, 0, none⟩)]] w fun e w' => e = .returned (.bool ((List.range len).any q)) ∧ Below w.heap.size w w' := by
  go_enter Try.func66, Try.ntmps66
  go_wp2_with fail
  refine (indexSale_any B a len cap F q hl w h hp).mono ?_
  rintro e u ⟨rfl, hb⟩
  have HF := Lib.hid (Pure.firstAt_some (q := q) (len := len))
  obtain ⟨x, hx⟩ : ∃ x, Pure.firstAt q len = x := ⟨_, rfl⟩
  rw [hx] at HF ⊢
  clear hx
  go_wp2_with fail
  go_ret
  exact ⟨ret_bool HF.out, hb⟩

set_option maxHeartbeats 1000000 in
set_option maxRecDepth 100000 in
theorem inOrderArr_any (a : Option Addr) (len cap : Nat) (F : Nat → Int) (q : Nat → Bool) (hl : len ≤ 40) (w : World) (h : NumsAt w a (len * 2) F)
    (hp : ∀ u j, j + 1 < len → Below w.heap.size w u → Calls Try.prog 64 #[.agg #[.int .i64 (F (j * 2)), .int .i64 (F (j * 2 + 1))], .agg #[.int .i64 (F ((j + 1) * 2)), .int .i64 (F ((j + 1) * 2 + 1))]] u fun e u' => e = .returned (.bool (q j)) ∧ Below u.heap.size u u') :
    Calls Try.prog 63 #[.slice a len cap, .func (.func 64) #[] #[]] w fun e w' => e = .returned (.bool (Pure.inOrder q len)) ∧ Below w.heap.size w w' := by
  have HN := Lib.hid h
  have HP := Lib.hid hp
  clear h hp
  go_enter Try.func63, Try.ntmps63
  go_wp2_with fail
  go_loopw [5] (fun i wr => ∃ k : Nat, (k + 1 ≤ len ∨ k = 0) ∧ i = .int .i64 (k + 1) ∧ (∀ j, j < k → q j = true) ∧ Below w.heap.size w wr) (fun i _ => len - (intOf i).toNat)
  case atStart => exact ⟨0, .inr rfl, rfl, fun j hj => by omega, Below.refl _ _⟩
  case round =>
    obtain ⟨k, hk, rfl, hq, hb⟩ := hrel
    have HQ := Lib.hid hq
    have HB := Lib.hid hb
    clear hq hb
    by_cases hk1 : k + 1 < len
    · obtain ⟨b, off, rfl, _⟩ := HN.out (k * 2) (by omega)
      have n1 : (k : Int) + 1 < len := by omega
      have HNr := Lib.hid (HN.out.below HB.out)
      have ca0 := HNr.out.at (show k * 2 < len * 2 by omega)
      have ca1 := nums_row HNr.out (show k * 2 + 1 < len * 2 by omega)
      have cb0 := HNr.out.at (show (k + 1) * 2 < len * 2 by omega)
      have cb1 := nums_row HNr.out (show (k + 1) * 2 + 1 < len * 2 by omega)
      have hcl := HP.out
      have q2 : IntKind.i64.wrap ((k : Int) + 1 - 1) = k := by rw [IntWalk.i64_in _ (by omega)]; omega
      have q3 : ((k : Int) + 1).toNat = k + 1 := by omega
      have xca0 := among_below ca0
      have xca1 := among_below ca1
      have xcb0 := among_below cb0
      have xcb1 := among_below cb1
      have HCL : Hid (∀ xq : Among (Below wr.heap.size wr), Calls Try.prog 64 #[.agg #[.int .i64 (F (k * 2)), .int .i64 (F (k * 2 + 1))], .agg #[.int .i64 (F ((k + 1) * 2)), .int .i64 (F ((k + 1) * 2 + 1))]] xq.val fun e w' => e = .returned (.bool (q k)) ∧ ∃ y : Among (Below wr.heap.size wr), w' = y.val) :=
        Lib.hid (fun xq => calls_class ((HP.out xq.val k hk1 (below_thn HB.out xq.ok)).mono fun e w' h => ⟨h.1, xq.ok.trans (h.2.mono xq.ok.size)⟩))
      clear hcl
      go_upto_region 4 with fail
      have HSt : Hid (Below wr.heap.size wr wr.drew) := Lib.hid (Below.refl _ _).drew
      have hne : Nonempty (Among (Below wr.heap.size wr)) := ⟨⟨_, HSt.out⟩⟩
      refine wp_region_class (Below wr.heap.size wr) (by kernel_rfl) (by kernel_rfl) HSt.out ?_
      repeat (go_big_quiet_step ((go_at_call 64; exact HCL.out _)))
      refine wpQuiet_nil ?_
      intro w8 hx
      have HB8 := Lib.hid (below_thn HB.out (among_out hx))
      clear hx hne xca0 xca1 xcb0 xcb1
      cases hqk : q k with
      | true =>
        go_wp2_with fail
        go_roundw
        case rel => exact ⟨k + 1, .inl (by omega), by go_num, fun j hj => by
          by_cases e : j = k
          · subst e; exact hqk
          · exact HQ.out j (by omega), HB8.out⟩
        case measure => simp [intOf]; omega
      | false =>
        go_wp2_with fail
        go_ret
        exact ⟨ret_bool (Pure.inOrder_no hk1 hqk).symm, HB8.out⟩
    · have n1 : ¬ (k : Int) + 1 < len := by omega
      go_wp2_with fail
      go_ret
      exact ⟨ret_bool (Pure.inOrder_yes fun j hj => HQ.out j (by omega)).symm, HB.out⟩

set_option maxHeartbeats 1000000 in
set_option maxRecDepth 100000 in
theorem inOrderSale_any (a : Option Addr) (len cap : Nat) (F : Nat → Int) (q : Nat → Bool) (hl : len ≤ 40) (w : World) (h : NumsAt w a (len * 4) F)
    (hp : ∀ u j, j + 1 < len → Below w.heap.size w u → Calls Try.prog 68 #[.agg #[.int .i64 (F (j * 4)), .int .i64 (F (j * 4 + 1)), .int .i64 (F (j * 4 + 2)), .int .i64 (F (j * 4 + 3))], .agg #[.int .i64 (F ((j + 1) * 4)), .int .i64 (F ((j + 1) * 4 + 1)), .int .i64 (F ((j + 1) * 4 + 2)), .int .i64 (F ((j + 1) * 4 + 3))]] u fun e u' => e = .returned (.bool (q j)) ∧ Below u.heap.size u u') :
    Calls Try.prog 67 #[.slice a len cap, .func (.func 68) #[] #[]] w fun e w' => e = .returned (.bool (Pure.inOrder q len)) ∧ Below w.heap.size w w' := by
  have HN := Lib.hid h
  have HP := Lib.hid hp
  clear h hp
  go_enter Try.func67, Try.ntmps67
  go_wp2_with fail
  go_loopw [5] (fun i wr => ∃ k : Nat, (k + 1 ≤ len ∨ k = 0) ∧ i = .int .i64 (k + 1) ∧ (∀ j, j < k → q j = true) ∧ Below w.heap.size w wr) (fun i _ => len - (intOf i).toNat)
  case atStart => exact ⟨0, .inr rfl, rfl, fun j hj => by omega, Below.refl _ _⟩
  case round =>
    obtain ⟨k, hk, rfl, hq, hb⟩ := hrel
    have HQ := Lib.hid hq
    have HB := Lib.hid hb
    clear hq hb
    by_cases hk1 : k + 1 < len
    · obtain ⟨b, off, rfl, _⟩ := HN.out (k * 4) (by omega)
      have n1 : (k : Int) + 1 < len := by omega
      have HNr := Lib.hid (HN.out.below HB.out)
      have ca0 := HNr.out.at (show k * 4 < len * 4 by omega)
      have ca1 := nums_row HNr.out (show k * 4 + 1 < len * 4 by omega)
      have ca2 := nums_row HNr.out (show k * 4 + 2 < len * 4 by omega)
      have ca3 := nums_row HNr.out (show k * 4 + 3 < len * 4 by omega)
      have cb0 := HNr.out.at (show (k + 1) * 4 < len * 4 by omega)
      have cb1 := nums_row HNr.out (show (k + 1) * 4 + 1 < len * 4 by omega)
      have cb2 := nums_row HNr.out (show (k + 1) * 4 + 2 < len * 4 by omega)
      have cb3 := nums_row HNr.out (show (k + 1) * 4 + 3 < len * 4 by omega)
      have hcl := HP.out
      have q2 : IntKind.i64.wrap ((k : Int) + 1 - 1) = k := by rw [IntWalk.i64_in _ (by omega)]; omega
      have q3 : ((k : Int) + 1).toNat = k + 1 := by omega
      have xca0 := among_below ca0
      have xca1 := among_below ca1
      have xca2 := among_below ca2
      have xca3 := among_below ca3
      have xcb0 := among_below cb0
      have xcb1 := among_below cb1
      have xcb2 := among_below cb2
      have xcb3 := among_below cb3
      have HCL : Hid (∀ xq : Among (Below wr.heap.size wr), Calls Try.prog 68 #[.agg #[.int .i64 (F (k * 4)), .int .i64 (F (k * 4 + 1)), .int .i64 (F (k * 4 + 2)), .int .i64 (F (k * 4 + 3))], .agg #[.int .i64 (F ((k + 1) * 4)), .int .i64 (F ((k + 1) * 4 + 1)), .int .i64 (F ((k + 1) * 4 + 2)), .int .i64 (F ((k + 1) * 4 + 3))]] xq.val fun e w' => e = .returned (.bool (q k)) ∧ ∃ y : Among (Below wr.heap.size wr), w' = y.val) :=
        Lib.hid (fun xq => calls_class ((HP.out xq.val k hk1 (below_thn HB.out xq.ok)).mono fun e w' h => ⟨h.1, xq.ok.trans (h.2.mono xq.ok.size)⟩))
      clear hcl
      go_upto_region 4 with fail
      have HSt : Hid (Below wr.heap.size wr wr.drew) := Lib.hid (Below.refl _ _).drew
      have hne : Nonempty (Among (Below wr.heap.size wr)) := ⟨⟨_, HSt.out⟩⟩
      refine wp_region_class (Below wr.heap.size wr) (by kernel_rfl) (by kernel_rfl) HSt.out ?_
      repeat (go_big_quiet_step ((go_at_call 68; exact HCL.out _)))
      refine wpQuiet_nil ?_
      intro w8 hx
      have HB8 := Lib.hid (below_thn HB.out (among_out hx))
      clear hx hne xca0 xca1 xca2 xca3 xcb0 xcb1 xcb2 xcb3
      cases hqk : q k with
      | true =>
        go_wp2_with fail
        go_roundw
        case rel => exact ⟨k + 1, .inl (by omega), by go_num, fun j hj => by
          by_cases e : j = k
          · subst e; exact hqk
          · exact HQ.out j (by omega), HB8.out⟩
        case measure => simp [intOf]; omega
      | false =>
        go_wp2_with fail
        go_ret
        exact ⟨ret_bool (Pure.inOrder_no hk1 hqk).symm, HB8.out⟩
    · have n1 : ¬ (k : Int) + 1 < len := by omega
      go_wp2_with fail
      go_ret
      exact ⟨ret_bool (Pure.inOrder_yes fun j hj => HQ.out j (by omega)).symm, HB.out⟩

end Go.Proofs.Ytacdbjandcdejaa
