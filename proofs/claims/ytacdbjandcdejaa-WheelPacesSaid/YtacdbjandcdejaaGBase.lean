/-
  Wheels, pairs, fractions; the greatest common divisor, lowest terms, and what is asked of wheels.
-/
import Derived.Test.YtacdbjandcdejaaVCopy
import Derived.Test.YtacdbjandcdejaaRestF
import Derived.BigRegion
import Derived.Lib.AppendZeros
namespace Go.Proofs.Ytacdbjandcdejaa
open Go.RowKit

abbrev wheelsV (a : Option Addr) (n c : Nat) : Value := .agg #[.slice a n c]
abbrev wheelsB (a : Option Addr) (n c : Nat) : Obj := .cells #[.slice a n c] 28
abbrev pairV (x y : Int) : Value := .agg #[.int .i64 x, .int .i64 y]
abbrev pairB (x y : Int) : Obj := .cells #[.int .i64 x, .int .i64 y] 63
abbrev partV (x y : Int) : Value := .agg #[.int .i64 x, .int .i64 y]
abbrev partB (x y : Int) : Obj := .cells #[.int .i64 x, .int .i64 y] 55
abbrev twoV (x y : Int) : Value := .agg #[.int .i64 x, .int .i64 y]
abbrev twoB (x y : Int) : Obj := .cells #[.int .i64 x, .int .i64 y] 82
abbrev shedB (a : Option Addr) (n c mp : Nat) : Obj := .cells #[.slice a n c, .map (some mp)] 94
theorem infoPair : ∃ i, Try.prog.info? 63 = some i ∧ i.zero = some (.agg #[.int .i64 0, .int .i64 0]) ∧ i.size = 2 ∧ i.bytes = 16 := by
  have h : (Try.prog.info? 63).map (fun i => (i.zero, i.size, i.bytes)) = some (some (.agg #[.int .i64 0, .int .i64 0]), 2, 16) := by kernel_rfl
  obtain ⟨i, hi, h2⟩ := Option.map_eq_some_iff.1 h
  simp only [Prod.mk.injEq] at h2
  exact ⟨i, hi, h2.1, h2.2.1, h2.2.2⟩
namespace Pure
theorem gcd_step (x y : Nat) : Nat.gcd y (x % y) = Nat.gcd x y := by
  rw [Nat.gcd_comm y, ← Nat.gcd_rec, Nat.gcd_comm]
theorem tmod_nat (x y : Nat) : Int.tmod (x : Int) (y : Int) = ((x % y : Nat) : Int) := by
  rw [Int.tmod_eq_emod_of_nonneg (by omega)]
  rfl
theorem tdiv_nat (x y : Nat) : Int.tdiv (x : Int) (y : Int) = ((x / y : Nat) : Int) := by
  rw [Int.tdiv_eq_ediv_of_nonneg (by omega)]
  rfl
end Pure
/-- No sum or product of teeth is above this. -/
abbrev most : Nat := 10000000000000
theorem wrap_nat {x : Nat} (h : x ≤ most) : IntKind.i64.wrap (x : Int) = x := IntWalk.i64_in _ (by unfold most at h; omega)

theorem rWithinEG (n lo hi : Int) (r : Bool) (hr : decide (lo ≤ n ∧ n ≤ hi) = r) (w : World) : Calls Try.prog 42 #[.int .i64 n, .int .i64 lo, .int .i64 hi] w fun e w' => e = .returned (.bool r) ∧ w = w' := by
  subst hr
  go_enter Try.func42, Try.ntmps42
  by_cases h : lo ≤ n
  · go_wp2_with fail
    go_ret
    exact ⟨ret_bool (by simp [h]), rfl⟩
  · go_wp2_with fail
    go_ret
    exact ⟨ret_bool (by simp; omega), rfl⟩

set_option maxHeartbeats 4000000 in
set_option maxRecDepth 100000 in
theorem gcd_any (x y : Nat) (hx : x ≤ most) (hy : y ≤ most) (w : World) : Calls Try.prog 53 #[.int .i64 x, .int .i64 y] w fun e w' => e = .returned (.int .i64 ((Nat.gcd x y : Nat) : Int)) ∧ Below w.heap.size w w' := by
  go_enter Try.func53, Try.ntmps53
  go_wp2_with fail
  go_loopw [0, 1] (fun a b wr => ∃ p q : Nat, a = .int .i64 p ∧ b = .int .i64 q ∧ Nat.gcd p q = Nat.gcd x y ∧ p ≤ most ∧ q ≤ most ∧ Below w.heap.size w wr) (fun _ b _ => (intOf b).toNat)
  case atStart => exact ⟨x, y, rfl, rfl, rfl, hx, hy, Below.refl _ _⟩
  case round =>
    obtain ⟨p, q, rfl, rfl, hg, hp, hq, hb⟩ := hrel
    have HG := Lib.hid (And.intro hg (And.intro hp hq))
    have HB := Lib.hid hb
    clear hg hp hq hb
    by_cases h0 : q = 0
    · subst h0
      go_wp2_with fail
      go_ret
      exact ⟨ret_int (by have h := HG.out.1; rw [Nat.gcd_zero_right] at h; rw [h]), HB.out⟩
    · have hne : ((q : Int) != 0) = true := by simp; omega
      have hz : ¬ (q : Int) = 0 := by omega
      have hmo := Pure.tmod_nat p q
      have hwm := wrap_nat (x := p % q) (Nat.le_trans (Nat.mod_le p q) HG.out.2.1)
      obtain ⟨r, hr⟩ : ∃ z, p % q = z := ⟨_, rfl⟩
      rw [hr] at hmo hwm
      have HR := Lib.hid hr
      have H0 := Lib.hid h0
      clear hr h0
      go_upto_region 2 with fail
      have HSt : Hid (Below wr.heap.size wr wr.drew) := Lib.hid (Below.refl _ _).drew
      have hne : Nonempty (Among (Below wr.heap.size wr)) := ⟨⟨_, HSt.out⟩⟩
      refine wp_region_class (Below wr.heap.size wr) (by kernel_rfl) (by kernel_rfl) HSt.out ?_
      repeat (go_big_quiet_step (fail))
      refine wpQuiet_nil ?_
      intro w8 hx
      have HB8 := Lib.hid (among_out hx)
      clear hx hne 
      go_wp2_with fail
      go_roundw
      case rel => exact ⟨q, r, rfl, rfl, by rw [← HR.out, Pure.gcd_step, HG.out.1], HG.out.2.2, by rw [← HR.out]; exact Nat.le_trans (Nat.mod_le p q) HG.out.2.1, below_thn HB.out HB8.out⟩
      case measure => simp only [intOf]; have h1 := HR.out; have h2 := H0.out; have h3 := Nat.mod_lt p (show 0 < q by omega); omega

set_option maxHeartbeats 4000000 in
set_option maxRecDepth 100000 in
theorem common_any (x y : Nat) (hx : x ≤ most) (hy : y ≤ most) (w : World) : Calls Try.prog 57 #[.int .i64 x, .int .i64 y] w fun e w' => e = .returned (.int .i64 ((Nat.gcd x y : Nat) : Int)) ∧ Below w.heap.size w w' := by
  go_enter Try.func57, Try.ntmps57
  go_wp2_with fail
  go_loopw [0, 1] (fun a b wr => ∃ p q : Nat, a = .int .i64 p ∧ b = .int .i64 q ∧ Nat.gcd p q = Nat.gcd x y ∧ p ≤ most ∧ q ≤ most ∧ Below w.heap.size w wr) (fun _ b _ => (intOf b).toNat)
  case atStart => exact ⟨x, y, rfl, rfl, rfl, hx, hy, Below.refl _ _⟩
  case round =>
    obtain ⟨p, q, rfl, rfl, hg, hp, hq, hb⟩ := hrel
    have HG := Lib.hid (And.intro hg (And.intro hp hq))
    have HB := Lib.hid hb
    clear hg hp hq hb
    by_cases h0 : q = 0
    · subst h0
      go_wp2_with fail
      go_ret
      exact ⟨ret_int (by have h := HG.out.1; rw [Nat.gcd_zero_right] at h; rw [h]), HB.out⟩
    · have hne : ((q : Int) != 0) = true := by simp; omega
      have hz : ¬ (q : Int) = 0 := by omega
      have hmo := Pure.tmod_nat p q
      have hwm := wrap_nat (x := p % q) (Nat.le_trans (Nat.mod_le p q) HG.out.2.1)
      obtain ⟨r, hr⟩ : ∃ z, p % q = z := ⟨_, rfl⟩
      rw [hr] at hmo hwm
      have HR := Lib.hid hr
      have H0 := Lib.hid h0
      clear hr h0
      go_upto_region 2 with fail
      have HSt : Hid (Below wr.heap.size wr wr.drew) := Lib.hid (Below.refl _ _).drew
      have hne : Nonempty (Among (Below wr.heap.size wr)) := ⟨⟨_, HSt.out⟩⟩
      refine wp_region_class (Below wr.heap.size wr) (by kernel_rfl) (by kernel_rfl) HSt.out ?_
      repeat (go_big_quiet_step (fail))
      refine wpQuiet_nil ?_
      intro w8 hx
      have HB8 := Lib.hid (among_out hx)
      clear hx hne 
      go_wp2_with fail
      go_roundw
      case rel => exact ⟨q, r, rfl, rfl, by rw [← HR.out, Pure.gcd_step, HG.out.1], HG.out.2.2, by rw [← HR.out]; exact Nat.le_trans (Nat.mod_le p q) HG.out.2.1, below_thn HB.out HB8.out⟩
      case measure => simp only [intOf]; have h1 := HR.out; have h2 := H0.out; have h3 := Nat.mod_lt p (show 0 < q by omega); omega

namespace Pure
def lcmN (x y : Nat) : Nat := x / Nat.gcd x y * y
theorem lcm_le {x y : Nat} : lcmN x y ≤ x * y := Nat.mul_le_mul_right _ (Nat.div_le_self _ _)
end Pure
namespace Pure
/-- A fraction in lowest terms. -/
def lowN (x y : Nat) : Nat := x / Nat.gcd x y
def lowD (x y : Nat) : Nat := y / Nat.gcd x y
end Pure
set_option maxHeartbeats 4000000 in
set_option maxRecDepth 100000 in
theorem lowest_any (x y : Nat) (hx : 1 ≤ x ∧ x ≤ most) (hy : y ≤ most) (w : World) : Calls Try.prog 34 #[.int .i64 x, .int .i64 y] w fun e w' => e = .returned (partV (Pure.lowN x y : Nat) (Pure.lowD x y : Nat)) ∧ Below w.heap.size w w' := by
  have hg := Nat.gcd_pos_of_pos_left y (show 0 < x by omega)
  have hcall := gcd_any x y hx.2 hy
  have hd1 := Pure.tdiv_nat x (Nat.gcd x y)
  have hd2 := Pure.tdiv_nat y (Nat.gcd x y)
  have hw1 := wrap_nat (x := x / Nat.gcd x y) (Nat.le_trans (Nat.div_le_self _ _) hx.2)
  have hw2 := wrap_nat (x := y / Nat.gcd x y) (Nat.le_trans (Nat.div_le_self _ _) hy)
  have hz : ¬ ((Nat.gcd x y : Nat) : Int) = 0 := by omega
  unfold Pure.lowN Pure.lowD
  obtain ⟨g, hgE⟩ : ∃ z, Nat.gcd x y = z := ⟨_, rfl⟩
  rw [hgE] at hd1 hd2 hw1 hw2 hz hcall ⊢
  obtain ⟨p, hpE⟩ : ∃ z, x / g = z := ⟨_, rfl⟩
  rw [hpE] at hd1 hw1 ⊢
  obtain ⟨q, hqE⟩ : ∃ z, y / g = z := ⟨_, rfl⟩
  rw [hqE] at hd2 hw2 ⊢
  have HG := Lib.hid hcall
  clear hg hgE hpE hqE hx hy hcall
  obtain ⟨W, hW⟩ : ∃ W, w.alloc (partB 0 0) = W := ⟨_, rfl⟩
  have HB : Hid (Below w.heap.size w W) := Lib.hid (by rw [← hW]; exact below_new _ _)
  have HX : Hid (W.heap[w.heap.size]? = some (partB 0 0)) := Lib.hid (by rw [← hW]; exact heap_top _ _ rfl)
  go_enter Try.func34, Try.ntmps34
  go_upto_region 1 with fail
  try rw [hW]
  clear hW
  go_wp2_with fail
  refine (HG.out _).mono ?_
  rintro e u ⟨rfl, hb⟩
  have HXu := Lib.hid (heap_lft HX.out hb)
  have HBu := Lib.hid (below_thn HB.out hb)
  clear hb
  have x0 := heap_cell HXu.out (j := 0) rfl
  have x1 := heap_cell HXu.out (j := 1) rfl
  have f0 := heap_frozen HXu.out 0
  have f1 := heap_frozen HXu.out 1
  go_upto_region 2 with fail
  go_region
  go_wp2_with fail
  refine bodyPost_ret (v := partV p q) (by simp [results, Try.results34, go_sem, x0, x1]; try rfl) rfl ⟨rfl, ?_⟩
  repeat (first | with_reducible exact HBu.out | with_reducible refine Below.setCell ?_ (by simp) _ | with_reducible refine Below.drew ?_)

namespace Pure
def teethB (n : Nat) (F : Nat → Int) : Bool := decide ((n : Int) ≤ 8) && inSpan 6 120 n F
theorem teethB_iff {n : Nat} {F : Nat → Int} : teethB n F = true ↔ n ≤ 8 ∧ ∀ j, j < n → 6 ≤ F j ∧ F j ≤ 120 := by
  unfold teethB inSpan
  simp only [Bool.and_eq_true, decide_eq_true_eq]
  constructor
  · rintro ⟨h1, h2⟩; exact ⟨by omega, h2⟩
  · rintro ⟨h1, h2⟩; exact ⟨by omega, h2⟩
theorem teethB_no {n : Nat} {F : Nat → Int} (g : ¬ (n ≤ 8 ∧ ∀ j, j < n → 6 ≤ F j ∧ F j ≤ 120)) : teethB n F = false := by
  cases e : teethB n F with
  | false => rfl
  | true => exact absurd (teethB_iff.1 e) g
end Pure
set_option maxHeartbeats 1000000 in
theorem toothed_any (a : Option Addr) (n c : Nat) (F : Nat → Int) (hn : n ≤ 1000) (w : World) (h : NumsAt w a n F) :
    Calls Try.prog 48 #[.slice a n c] w fun e w' => e = .returned (.bool (Pure.inSpan 6 120 n F)) ∧ Below w.heap.size w w' := by
  go_enter Try.func48, Try.ntmps48
  go_wp2_with fail
  refine (within_numsG 6 120 a n c F (by omega) _ h).mono ?_
  rintro e u ⟨rfl, rfl⟩
  go_wp2_with fail
  go_ret
  exact ⟨rfl, below_new _ _⟩
set_option maxHeartbeats 2000000 in
/-- **Check**. -/
theorem check_anyG (a : Option Addr) (n c : Nat) (F : Nat → Int) (hn : n ≤ 20) (w : World) (h : NumsAt w a n F) :
    Calls Try.prog 25 #[wheelsV a n c] w fun e w' => e = .returned (.int .i64 (Pure.err (Pure.teethB n F) 100)) ∧ Below w.heap.size w w' := by
  obtain ⟨W, hW⟩ : ∃ W, w.alloc (wheelsB a n c) = W := ⟨_, rfl⟩
  have HB : Hid (Below w.heap.size w W) := Lib.hid (by rw [← hW]; exact below_new _ _)
  have HX : Hid (W.heap[w.heap.size]? = some (wheelsB a n c)) := Lib.hid (by rw [← hW]; exact heap_top _ _ rfl)
  have HP := Lib.hid (h.below HB.out)
  clear h
  have x0 := heap_cell HX.out (j := 0) rfl
  unfold Pure.teethB
  obtain ⟨r2, hr2⟩ : ∃ z, Pure.inSpan 6 120 n F = z := ⟨_, rfl⟩
  rw [hr2]
  have HR2 := Lib.hid hr2
  clear hr2
  by_cases h8 : (n : Int) ≤ 8
  · have hd : decide ((n : Int) ≤ 8) = true := decide_eq_true h8
    rw [hd]
    clear hd
    go_enter Try.func25, Try.ntmps25
    go_upto_region 1 with fail
    try rw [hW]
    clear hW
    go_wp2_with fail
    refine (toothed_any a n c F (by omega) _ HP.out).mono ?_
    rintro e u ⟨rfl, hb⟩
    rw [HR2.out]
    have HBu := Lib.hid (below_thn HB.out hb)
    clear hb
    go_wp2_with fail
    refine (unless_anyG _ _ _).mono ?_
    rintro e u2 ⟨rfl, rfl⟩
    go_wp2_with fail
    go_ret
    exact ⟨ret_int (by simp), HBu.out⟩
  · have hd : decide ((n : Int) ≤ 8) = false := decide_eq_false h8
    rw [hd]
    clear hd
    go_enter Try.func25, Try.ntmps25
    go_upto_region 1 with fail
    try rw [hW]
    clear hW
    go_wp2_with fail
    refine (unless_anyG _ _ _).mono ?_
    rintro e u2 ⟨rfl, rfl⟩
    go_wp2_with fail
    go_ret
    exact ⟨ret_int (by simp), HB.out⟩
set_option maxHeartbeats 4000000 in
set_option maxRecDepth 100000 in
theorem rWheels_any (a : Option Addr) (n c : Nat) (F : Nat → Int) (hn : n ≤ 20) (w : World) (h : NumsAt w a n F) :
    Calls Try.prog 39 #[wheelsV a n c] w fun e w' => e = .returned (.bool (Pure.teethB n F)) ∧ Below w.heap.size w w' := by
  obtain ⟨W, hW⟩ : ∃ W, w.alloc (wheelsB a n c) = W := ⟨_, rfl⟩
  have HB : Hid (Below w.heap.size w W) := Lib.hid (by rw [← hW]; exact below_new _ _)
  have HX : Hid (W.heap[w.heap.size]? = some (wheelsB a n c)) := Lib.hid (by rw [← hW]; exact heap_top _ _ rfl)
  have HP := Lib.hid (h.below HB.out)
  clear h
  have x0 := heap_cell HX.out (j := 0) rfl
  go_enter Try.func39, Try.ntmps39
  go_upto_region 1 with fail
  try rw [hW]
  clear hW
  go_wp2_with fail
  go_loopw [4, 8] (fun _ i wr => ∃ k : Nat, k ≤ n ∧ i = .int .i64 k ∧ (∀ j, j < k → 6 ≤ F j ∧ F j ≤ 120) ∧ wr = W) (fun _ i _ => n - (intOf i).toNat)
  case atStart => exact ⟨0, Nat.zero_le _, rfl, fun j hj => by omega, rfl⟩
  case round =>
    obtain ⟨k, hk, rfl, hq, rfl⟩ := hrel
    have HQ := Lib.hid hq
    clear hq
    by_cases hk1 : k < n
    · obtain ⟨b, off, rfl, c0⟩ := HP.out k hk1
      have n1 : (k : Int) < n := by omega
      obtain ⟨x, hx⟩ : ∃ z, F k = z := ⟨_, rfl⟩
      rw [hx] at c0
      have HV := Lib.hid hx
      clear hx
      obtain ⟨s1, hs1⟩ : ∃ r, decide (6 ≤ x ∧ x ≤ 120) = r := ⟨_, rfl⟩
      have HS1 := Lib.hid hs1
      clear hs1
      go_wp2_with fail
      refine (rWithinEG x 6 120 s1 HS1.out _).mono ?_
      rintro e w' ⟨rfl, rfl⟩
      cases s1
      · go_wp2_with fail
        go_ret
        exact ⟨ret_bool (Pure.teethB_no fun g => by have h1 := of_decide_eq_false HS1.out; have h2 := g.2 k hk1; rw [HV.out] at h2; exact h1 h2).symm, HB.out⟩
      · go_wp2_with fail
        go_roundw
        case rel => exact ⟨k + 1, by omega, by go_num, fun j hj => by
          by_cases e : j = k
          · subst e; rw [HV.out]; exact of_decide_eq_true HS1.out
          · exact HQ.out j (by omega), trivial⟩
        case measure => simp [intOf]; omega
    · obtain rfl : k = n := by omega
      have n1 : ¬ (k : Int) < k := by omega
      go_wp2_with fail
      go_ret
      exact ⟨ret_bool (by
        by_cases h8 : (k : Int) ≤ 8
        · rw [Pure.teethB_iff.2 ⟨by omega, HQ.out⟩, decide_eq_true h8]
        · rw [Pure.teethB_no (fun g => h8 (by omega)), decide_eq_false h8]), HB.out⟩
end Go.Proofs.Ytacdbjandcdejaa
