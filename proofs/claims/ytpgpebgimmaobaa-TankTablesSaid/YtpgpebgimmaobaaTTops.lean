/-
  The contracts of Volume, Eighth, Range, and of the specification's own.
-/
import Derived.Test.YtpgpebgimmaobaaTCheck
import Derived.Test.YtpgpebgimmaobaaTTank
import Derived.Test.YtpgpebgimmaobaaTEighth
namespace Go.Proofs.Ytpgpebgimmaobaa
open Go.RowKit

namespace Pure
/-- A pair and a code. -/
def resV (code x y : Int) : Value := if code = 0 then .tuple #[.agg #[.int .i64 x, .int .i64 y], .int .i64 0] else .tuple #[.agg #[.int .i64 0, .int .i64 0], .int .i64 code]
theorem resV_zero {code : Int} (h : code = 0) (x y : Int) : resV code x y = .tuple #[.agg #[.int .i64 x, .int .i64 y], .int .i64 0] := if_pos h
theorem resV_err {code : Int} (h : code ≠ 0) (x y : Int) : resV code x y = .tuple #[.agg #[.int .i64 0, .int .i64 0], .int .i64 code] := if_neg h
def code2 (a b : Bool) (x y : Int) : Int := if a then (if b then 0 else y) else x
end Pure
theorem withinE {hi : Int} (n lo : Int) (b cap : Nat) (w : World) (h0 : w.cell? ⟨b, 0, none⟩ = some (.int .i64 n)) (r : Bool) (hr : (decide (lo ≤ n) && decide (n ≤ hi)) = r) :
    Calls Try.prog 15 #[.agg #[.int .i64 lo, .int .i64 hi], .slice (some ⟨b, 0, none⟩) 1 cap] w fun e w' => e = .returned (.bool r) ∧ Below w.heap.size w w' :=
  (within1 lo hi n b cap w h0 r hr).mono fun _ _ h => ⟨h.1, by rw [h.2]; exact below_new _ _⟩
theorem rWithinE (n lo hi : Int) (r : Bool) (hr : decide (lo ≤ n ∧ n ≤ hi) = r) (w : World) : Calls Try.prog 20 #[.int .i64 n, .int .i64 lo, .int .i64 hi] w fun e w' => e = .returned (.bool r) ∧ w = w' :=
  (rWithin_any n lo hi w).mono fun _ _ h => ⟨h.1.trans (by rw [hr]), h.2⟩
theorem heightB {hh : Int} (a : Option Addr) (len cap : Nat) (lk ft : Int) (hl : len ≤ 40) (h : 8 * ((len : Int) - 1) = hh) (w : World) :
    Calls Try.prog 16 #[tankV a len cap lk ft] w fun e w' => e = .returned (.int .i64 hh) ∧ Below w.heap.size w w' :=
  (heightE a len cap lk ft hl h w).mono fun _ _ h => ⟨h.1, by rw [h.2]; exact below_new _ _⟩
theorem rHeightB {hh : Int} (a : Option Addr) (len cap : Nat) (lk ft : Int) (hl : len ≤ 40) (h : 8 * ((len : Int) - 1) = hh) (w : World) :
    Calls Try.prog 21 #[tankV a len cap lk ft] w fun e w' => e = .returned (.int .i64 hh) ∧ Below w.heap.size w w' :=
  (rHeight_any a len cap lk ft hl w).mono fun _ _ g => ⟨g.1.trans (by rw [h]), by rw [g.2]; exact below_new _ _⟩
theorem bools_same {lo n hi : Int} : (decide (lo ≤ n) && decide (n ≤ hi)) = decide (lo ≤ n ∧ n ≤ hi) := by
  rw [Bool.eq_iff_iff]
  simp
set_option maxHeartbeats 4000000 in
set_option maxRecDepth 100000 in
theorem volume_top (a : Option Addr) (len cap : Nat) (F : Nat → Int) (lk ft e : Int) (hl : len ≤ 40) (w : World) (h : NumsAt w a len F) :
    Calls Try.prog 6 #[tankV a len cap lk ft, .int .i64 e] w fun ee w' => ee = .returned (Pure.resV (Pure.code2 (Pure.okTank len F lk ft) (decide (0 ≤ e ∧ e ≤ 8 * ((len : Int) - 1))) 30 2) (Pure.vol F e / Pure.gcd (Pure.vol F e) 8) (8 / Pure.gcd (Pure.vol F e) 8)) ∧ Below w.heap.size w w' := by
  have HN := Lib.hid h
  clear h
  obtain ⟨ok, hok⟩ : ∃ ok, Pure.okTank len F lk ft = ok := ⟨_, rfl⟩
  obtain ⟨hh, hhh⟩ : ∃ hh, 8 * ((len : Int) - 1) = hh := ⟨_, rfl⟩
  obtain ⟨ri, hri⟩ : ∃ r, decide (0 ≤ e ∧ e ≤ hh) = r := ⟨_, rfl⟩
  rw [hok, hhh, hri]
  have HOK := Lib.hid hok
  have HHH := Lib.hid hhh
  have HRI := Lib.hid hri
  clear hok hhh hri
  go_enter Try.func6, Try.ntmps6
  go_wp2_with fail
  obtain ⟨W1, hW1⟩ : ∃ W, ((w.alloc (tankB a len cap lk ft)).alloc (.cells #[.int .i64 0, .int .i64 0] 30)) = W := ⟨_, rfl⟩
  have HB1 : Hid (Below w.heap.size w W1) := Lib.hid (by rw [← hW1]; exact (((Below.refl _ _).alloc (Nat.le_refl _) _).alloc (by simp <;> omega) _))
  have HX1 : Hid (W1.heap[w.heap.size]? = some (tankB a len cap lk ft) ∧ W1.heap[w.heap.size + 1]? = some (.cells #[.int .i64 0, .int .i64 0] 30)) := Lib.hid (by rw [← hW1]; exact ⟨heap_up (heap_top _ _ rfl) _, heap_top _ _ (by simp)⟩)
  have HN1 : Hid (NumsAt W1 a len F) := Lib.hid (HN.out.below HB1.out)
  rw [hW1]
  clear hW1
  refine (check_any a len cap F lk ft hl _ HN1.out).mono ?_
  rintro e W2 ⟨rfl, hb⟩
  have HX2 : Hid (W2.heap[w.heap.size]? = some (tankB a len cap lk ft) ∧ W2.heap[w.heap.size + 1]? = some (.cells #[.int .i64 0, .int .i64 0] 30)) := Lib.hid ⟨heap_lft HX1.out.1 hb, heap_lft HX1.out.2 hb⟩
  have HN2 := Lib.hid (HN1.out.below hb)
  have HB2 := Lib.hid (below_thn HB1.out hb)
  clear hb
  have t0 := heap_cell HX2.out.1 (j := 0) rfl
  have t1 := heap_cell HX2.out.1 (j := 1) rfl
  have t2 := heap_cell HX2.out.1 (j := 2) rfl
  have r0 := heap_cell HX2.out.2 (j := 0) rfl
  have fr0 := heap_frozen HX2.out.2 0
  have r1 := heap_cell HX2.out.2 (j := 1) rfl
  have fr1 := heap_frozen HX2.out.2 1
  rw [HOK.out]
  cases ok with
  | false =>
    go_wp2_with fail
    refine bodyPost_ret (v := .tuple #[.agg #[.int .i64 0, .int .i64 0], .int .i64 30]) (by first | (simp [results, Try.results6, go_sem, r0, r1]; done) | (simp [results, Try.results6, go_sem, Pure.err_false, r0, r1]; done)) rfl ⟨rfl, ?_⟩
    exact ((HB2.out.setCell (p := ⟨w.heap.size + 1, 0, none⟩) (by simp) _).setCell (p := ⟨w.heap.size + 1, 1, none⟩) (by simp) _)
  | true =>
    go_wp2_with fail
    refine (heightB a len cap lk ft hl HHH.out _).mono ?_
    rintro e W3 ⟨rfl, hb⟩
    clear t0 t1 t2 r0 fr0 r1 fr1
    have HX3 : Hid (W3.heap[w.heap.size]? = some (tankB a len cap lk ft) ∧ W3.heap[w.heap.size + 1]? = some (.cells #[.int .i64 0, .int .i64 0] 30)) := Lib.hid ⟨heap_lft HX2.out.1 hb, heap_lft HX2.out.2 hb⟩
    have HN3 := Lib.hid (HN2.out.below hb)
    have HB3 := Lib.hid (below_thn HB2.out hb)
    clear hb
    have t0 := heap_cell HX3.out.1 (j := 0) rfl
    have t1 := heap_cell HX3.out.1 (j := 1) rfl
    have t2 := heap_cell HX3.out.1 (j := 2) rfl
    have r0 := heap_cell HX3.out.2 (j := 0) rfl
    have fr0 := heap_frozen HX3.out.2 0
    have r1 := heap_cell HX3.out.2 (j := 1) rfl
    have fr1 := heap_frozen HX3.out.2 1
    go_wp2_with fail
    refine (withinE (hi := hh) e 0 _ _ _ (cells_top _ _ _ (by simp) 0) ri (bools_same.trans HRI.out)).mono ?_
    rintro e W4 ⟨rfl, hb⟩
    clear t0 t1 t2 r0 fr0 r1 fr1
    have hb := (below_new W3 (.cells #[.int .i64 e] 3)).trans (hb.mono (by simp))
    have HX4 : Hid (W4.heap[w.heap.size]? = some (tankB a len cap lk ft) ∧ W4.heap[w.heap.size + 1]? = some (.cells #[.int .i64 0, .int .i64 0] 30)) := Lib.hid ⟨heap_lft HX3.out.1 hb, heap_lft HX3.out.2 hb⟩
    have HN4 := Lib.hid (HN3.out.below hb)
    have HB4 := Lib.hid (below_thn HB3.out hb)
    clear hb
    have t0 := heap_cell HX4.out.1 (j := 0) rfl
    have t1 := heap_cell HX4.out.1 (j := 1) rfl
    have t2 := heap_cell HX4.out.1 (j := 2) rfl
    have r0 := heap_cell HX4.out.2 (j := 0) rfl
    have fr0 := heap_frozen HX4.out.2 0
    have r1 := heap_cell HX4.out.2 (j := 1) rfl
    have fr1 := heap_frozen HX4.out.2 1
    cases ri with
    | false =>
      go_wp2_with fail
      refine bodyPost_ret (v := .tuple #[.agg #[.int .i64 0, .int .i64 0], .int .i64 2]) (by first | (simp [results, Try.results6, go_sem, r0, r1]; done) | (simp [results, Try.results6, go_sem, Pure.err_false, r0, r1]; done)) rfl ⟨rfl, ?_⟩
      exact ((HB4.out.setCell (p := ⟨w.heap.size + 1, 0, none⟩) (by simp) _).setCell (p := ⟨w.heap.size + 1, 1, none⟩) (by simp) _)
    | true =>
      have hr := HRI.out
      simp only [decide_eq_true_eq] at hr
      obtain ⟨e0, e1⟩ := hr
      have hkk := Pure.okTank_iff.1 HOK.out
      have e2 : e ≤ 8 * ((len : Int) - 1) := by have := HHH.out; omega
      obtain ⟨v0, v1⟩ := Pure.vol_span hkk e0 e2
      have HKK := Lib.hid hkk
      have E0 := Lib.hid e0
      have E2 := Lib.hid e2
      clear hkk e0 e1 e2
      obtain ⟨v, hv⟩ : ∃ v, Pure.vol F e = v := ⟨_, rfl⟩
      rw [hv] at v0 v1
      have HV := Lib.hid hv
      clear hv
      go_wp2_with fail
      refine (volume_any a len cap F lk ft e HKK.out E0.out E2.out _ HN4.out).mono ?_
      rintro e W5 ⟨rfl, hb⟩
      clear t0 t1 t2 r0 fr0 r1 fr1
      have HX5 : Hid (W5.heap[w.heap.size]? = some (tankB a len cap lk ft) ∧ W5.heap[w.heap.size + 1]? = some (.cells #[.int .i64 0, .int .i64 0] 30)) := Lib.hid ⟨heap_lft HX4.out.1 hb, heap_lft HX4.out.2 hb⟩
      have HN5 := Lib.hid (HN4.out.below hb)
      have HB5 := Lib.hid (below_thn HB4.out hb)
      clear hb
      have t0 := heap_cell HX5.out.1 (j := 0) rfl
      have t1 := heap_cell HX5.out.1 (j := 1) rfl
      have t2 := heap_cell HX5.out.1 (j := 2) rfl
      have r0 := heap_cell HX5.out.2 (j := 0) rfl
      have fr0 := heap_frozen HX5.out.2 0
      have r1 := heap_cell HX5.out.2 (j := 1) rfl
      have fr1 := heap_frozen HX5.out.2 1
      rw [HV.out]
      go_wp2_with fail
      refine (part_any v 8 v0 (by omega) (by decide) (by decide) _).mono ?_
      rintro e W6 ⟨rfl, hb⟩
      clear t0 t1 t2 r0 fr0 r1 fr1
      have HX6 : Hid (W6.heap[w.heap.size]? = some (tankB a len cap lk ft) ∧ W6.heap[w.heap.size + 1]? = some (.cells #[.int .i64 0, .int .i64 0] 30)) := Lib.hid ⟨heap_lft HX5.out.1 hb, heap_lft HX5.out.2 hb⟩
      have HN6 := Lib.hid (HN5.out.below hb)
      have HB6 := Lib.hid (below_thn HB5.out hb)
      clear hb
      have t0 := heap_cell HX6.out.1 (j := 0) rfl
      have t1 := heap_cell HX6.out.1 (j := 1) rfl
      have t2 := heap_cell HX6.out.1 (j := 2) rfl
      have r0 := heap_cell HX6.out.2 (j := 0) rfl
      have fr0 := heap_frozen HX6.out.2 0
      have r1 := heap_cell HX6.out.2 (j := 1) rfl
      have fr1 := heap_frozen HX6.out.2 1
      go_wp2_with fail
      refine bodyPost_ret (v := .tuple #[.agg #[.int .i64 (v / Pure.gcd v 8), .int .i64 (8 / Pure.gcd v 8)], .int .i64 0]) (by first | (simp [results, Try.results6, go_sem, r0, r1]; done) | (simp [results, Try.results6, go_sem, Pure.err_false, r0, r1]; done)) rfl ⟨by rw [HV.out]; rfl, ?_⟩
      exact ((HB6.out.setCell (p := ⟨w.heap.size + 1, 0, none⟩) (by simp) _).setCell (p := ⟨w.heap.size + 1, 1, none⟩) (by simp) _)

set_option maxHeartbeats 4000000 in
set_option maxRecDepth 100000 in
theorem rVolume_top (a : Option Addr) (len cap : Nat) (F : Nat → Int) (lk ft e : Int) (hl : len ≤ 40) (w : World) (h : NumsAt w a len F) :
    Calls Try.prog 7 #[tankV a len cap lk ft, .int .i64 e] w fun ee w' => ee = .returned (Pure.resV (Pure.code2 (Pure.okTank len F lk ft) (decide (0 ≤ e ∧ e ≤ 8 * ((len : Int) - 1))) 30 2) (Pure.vol F e / Pure.gcd (Pure.vol F e) 8) (8 / Pure.gcd (Pure.vol F e) 8)) ∧ Below w.heap.size w w' := by
  have HN := Lib.hid h
  clear h
  obtain ⟨ok, hok⟩ : ∃ ok, Pure.okTank len F lk ft = ok := ⟨_, rfl⟩
  obtain ⟨hh, hhh⟩ : ∃ hh, 8 * ((len : Int) - 1) = hh := ⟨_, rfl⟩
  obtain ⟨ri, hri⟩ : ∃ r, decide (0 ≤ e ∧ e ≤ hh) = r := ⟨_, rfl⟩
  rw [hok, hhh, hri]
  have HOK := Lib.hid hok
  have HHH := Lib.hid hhh
  have HRI := Lib.hid hri
  clear hok hhh hri
  go_enter Try.func7, Try.ntmps7
  go_wp2_with fail
  obtain ⟨W1, hW1⟩ : ∃ W, ((w.alloc (tankB a len cap lk ft)).alloc (.cells #[.int .i64 0, .int .i64 0] 30)) = W := ⟨_, rfl⟩
  have HB1 : Hid (Below w.heap.size w W1) := Lib.hid (by rw [← hW1]; exact (((Below.refl _ _).alloc (Nat.le_refl _) _).alloc (by simp <;> omega) _))
  have HX1 : Hid (W1.heap[w.heap.size]? = some (tankB a len cap lk ft) ∧ W1.heap[w.heap.size + 1]? = some (.cells #[.int .i64 0, .int .i64 0] 30)) := Lib.hid (by rw [← hW1]; exact ⟨heap_up (heap_top _ _ rfl) _, heap_top _ _ (by simp)⟩)
  have HN1 : Hid (NumsAt W1 a len F) := Lib.hid (HN.out.below HB1.out)
  rw [hW1]
  clear hW1
  refine (rTank_any a len cap F lk ft hl _ HN1.out).mono ?_
  rintro e W2 ⟨rfl, hb⟩
  have HX2 : Hid (W2.heap[w.heap.size]? = some (tankB a len cap lk ft) ∧ W2.heap[w.heap.size + 1]? = some (.cells #[.int .i64 0, .int .i64 0] 30)) := Lib.hid ⟨heap_lft HX1.out.1 hb, heap_lft HX1.out.2 hb⟩
  have HN2 := Lib.hid (HN1.out.below hb)
  have HB2 := Lib.hid (below_thn HB1.out hb)
  clear hb
  have t0 := heap_cell HX2.out.1 (j := 0) rfl
  have t1 := heap_cell HX2.out.1 (j := 1) rfl
  have t2 := heap_cell HX2.out.1 (j := 2) rfl
  have r0 := heap_cell HX2.out.2 (j := 0) rfl
  have fr0 := heap_frozen HX2.out.2 0
  have r1 := heap_cell HX2.out.2 (j := 1) rfl
  have fr1 := heap_frozen HX2.out.2 1
  rw [HOK.out]
  cases ok with
  | false =>
    go_wp2_with fail
    refine bodyPost_ret (v := .tuple #[.agg #[.int .i64 0, .int .i64 0], .int .i64 30]) (by first | (simp [results, Try.results7, go_sem, r0, r1]; done) | (simp [results, Try.results7, go_sem, Pure.err_false, r0, r1]; done)) rfl ⟨rfl, ?_⟩
    exact ((HB2.out.setCell (p := ⟨w.heap.size + 1, 0, none⟩) (by simp) _).setCell (p := ⟨w.heap.size + 1, 1, none⟩) (by simp) _)
  | true =>
    go_wp2_with fail
    refine (rHeightB a len cap lk ft hl HHH.out _).mono ?_
    rintro e W3 ⟨rfl, hb⟩
    clear t0 t1 t2 r0 fr0 r1 fr1
    have HX3 : Hid (W3.heap[w.heap.size]? = some (tankB a len cap lk ft) ∧ W3.heap[w.heap.size + 1]? = some (.cells #[.int .i64 0, .int .i64 0] 30)) := Lib.hid ⟨heap_lft HX2.out.1 hb, heap_lft HX2.out.2 hb⟩
    have HN3 := Lib.hid (HN2.out.below hb)
    have HB3 := Lib.hid (below_thn HB2.out hb)
    clear hb
    have t0 := heap_cell HX3.out.1 (j := 0) rfl
    have t1 := heap_cell HX3.out.1 (j := 1) rfl
    have t2 := heap_cell HX3.out.1 (j := 2) rfl
    have r0 := heap_cell HX3.out.2 (j := 0) rfl
    have fr0 := heap_frozen HX3.out.2 0
    have r1 := heap_cell HX3.out.2 (j := 1) rfl
    have fr1 := heap_frozen HX3.out.2 1
    go_wp2_with fail
    refine (rWithinE e 0 hh ri HRI.out _).mono ?_
    rintro e' w' ⟨rfl, rfl⟩
    cases ri with
    | false =>
      go_wp2_with fail
      refine bodyPost_ret (v := .tuple #[.agg #[.int .i64 0, .int .i64 0], .int .i64 2]) (by first | (simp [results, Try.results7, go_sem, r0, r1]; done) | (simp [results, Try.results7, go_sem, Pure.err_false, r0, r1]; done)) rfl ⟨rfl, ?_⟩
      exact ((HB3.out.setCell (p := ⟨w.heap.size + 1, 0, none⟩) (by simp) _).setCell (p := ⟨w.heap.size + 1, 1, none⟩) (by simp) _)
    | true =>
      have hr := HRI.out
      simp only [decide_eq_true_eq] at hr
      obtain ⟨e0, e1⟩ := hr
      have hkk := Pure.okTank_iff.1 HOK.out
      have e2 : e ≤ 8 * ((len : Int) - 1) := by have := HHH.out; omega
      obtain ⟨v0, v1⟩ := Pure.vol_span hkk e0 e2
      have HKK := Lib.hid hkk
      have E0 := Lib.hid e0
      have E2 := Lib.hid e2
      clear hkk e0 e1 e2
      obtain ⟨v, hv⟩ : ∃ v, Pure.vol F e = v := ⟨_, rfl⟩
      rw [hv] at v0 v1
      have HV := Lib.hid hv
      clear hv
      go_wp2_with fail
      refine (rEight_any a len cap F lk ft e HKK.out E0.out E2.out _ HN3.out).mono ?_
      rintro e W4 ⟨rfl, hb⟩
      clear t0 t1 t2 r0 fr0 r1 fr1
      have HX4 : Hid (W4.heap[w.heap.size]? = some (tankB a len cap lk ft) ∧ W4.heap[w.heap.size + 1]? = some (.cells #[.int .i64 0, .int .i64 0] 30)) := Lib.hid ⟨heap_lft HX3.out.1 hb, heap_lft HX3.out.2 hb⟩
      have HN4 := Lib.hid (HN3.out.below hb)
      have HB4 := Lib.hid (below_thn HB3.out hb)
      clear hb
      have t0 := heap_cell HX4.out.1 (j := 0) rfl
      have t1 := heap_cell HX4.out.1 (j := 1) rfl
      have t2 := heap_cell HX4.out.1 (j := 2) rfl
      have r0 := heap_cell HX4.out.2 (j := 0) rfl
      have fr0 := heap_frozen HX4.out.2 0
      have r1 := heap_cell HX4.out.2 (j := 1) rfl
      have fr1 := heap_frozen HX4.out.2 1
      rw [HV.out]
      go_wp2_with fail
      refine (rLeast_any v 8 v0 (by omega) (by decide) (by decide) _).mono ?_
      rintro e W5 ⟨rfl, hb⟩
      clear t0 t1 t2 r0 fr0 r1 fr1
      have HX5 : Hid (W5.heap[w.heap.size]? = some (tankB a len cap lk ft) ∧ W5.heap[w.heap.size + 1]? = some (.cells #[.int .i64 0, .int .i64 0] 30)) := Lib.hid ⟨heap_lft HX4.out.1 hb, heap_lft HX4.out.2 hb⟩
      have HN5 := Lib.hid (HN4.out.below hb)
      have HB5 := Lib.hid (below_thn HB4.out hb)
      clear hb
      have t0 := heap_cell HX5.out.1 (j := 0) rfl
      have t1 := heap_cell HX5.out.1 (j := 1) rfl
      have t2 := heap_cell HX5.out.1 (j := 2) rfl
      have r0 := heap_cell HX5.out.2 (j := 0) rfl
      have fr0 := heap_frozen HX5.out.2 0
      have r1 := heap_cell HX5.out.2 (j := 1) rfl
      have fr1 := heap_frozen HX5.out.2 1
      go_wp2_with fail
      refine bodyPost_ret (v := .tuple #[.agg #[.int .i64 (v / Pure.gcd v 8), .int .i64 (8 / Pure.gcd v 8)], .int .i64 0]) (by first | (simp [results, Try.results7, go_sem, r0, r1]; done) | (simp [results, Try.results7, go_sem, Pure.err_false, r0, r1]; done)) rfl ⟨by rw [HV.out]; rfl, ?_⟩
      exact ((HB5.out.setCell (p := ⟨w.heap.size + 1, 0, none⟩) (by simp) _).setCell (p := ⟨w.heap.size + 1, 1, none⟩) (by simp) _)

theorem fullB {len : Nat} {f : Int} (a : Option Addr) (cap : Nat) (F : Nat → Int) (lk ft : Int) (h1 : 1 ≤ len) (hl : len ≤ 40) (hf : F (len - 1) = f) (w : World) (h : NumsAt w a len F) :
    Calls Try.prog 33 #[tankV a len cap lk ft] w fun e w' => e = .returned (.int .i64 f) ∧ Below w.heap.size w w' := by
  obtain ⟨n, rfl⟩ : ∃ n, len = n + 1 := ⟨len - 1, by omega⟩
  rw [Nat.add_sub_cancel] at hf
  subst hf
  exact (full_any a n cap F lk ft (by omega) w h).mono fun _ _ g => ⟨g.1, by rw [g.2]; exact below_new _ _⟩
theorem rFullB {len : Nat} {f : Int} (a : Option Addr) (cap : Nat) (F : Nat → Int) (lk ft : Int) (h1 : 1 ≤ len) (hl : len ≤ 40) (hf : F (len - 1) = f) (w : World) (h : NumsAt w a len F) :
    Calls Try.prog 26 #[tankV a len cap lk ft] w fun e w' => e = .returned (.int .i64 f) ∧ Below w.heap.size w w' := by
  obtain ⟨n, rfl⟩ : ∃ n, len = n + 1 := ⟨len - 1, by omega⟩
  rw [Nat.add_sub_cancel] at hf
  subst hf
  exact (rFull_any a n cap F lk ft (by omega) w h).mono fun _ _ g => ⟨g.1, by rw [g.2]; exact below_new _ _⟩
set_option maxHeartbeats 4000000 in
set_option maxRecDepth 100000 in
theorem checkPints_any {f : Int} {ri : Bool} (a : Option Addr) (len cap : Nat) (F : Nat → Int) (lk ft p : Int) (h1 : 1 ≤ len) (hl : len ≤ 40) (hf : Hid (F (len - 1) = f)) (hri : Hid (decide (0 ≤ p ∧ p ≤ f) = ri)) (w : World) (h : NumsAt w a len F) :
    Calls Try.prog 24 #[tankV a len cap lk ft, .int .i64 p] w fun x w' => x = .returned (.int .i64 (Pure.err ri 2)) ∧ Below w.heap.size w w' := by
  have HN := Lib.hid h
  clear h
  go_enter Try.func24, Try.ntmps24
  go_wp2_with fail
  obtain ⟨W1, hW1⟩ : ∃ W, (w.alloc (tankB a len cap lk ft)) = W := ⟨_, rfl⟩
  have HB1 : Hid (Below w.heap.size w W1) := Lib.hid (by rw [← hW1]; exact ((Below.refl _ _).alloc (Nat.le_refl _) _))
  have HX1 : Hid (W1.heap[w.heap.size]? = some (tankB a len cap lk ft)) := Lib.hid (by rw [← hW1]; exact heap_top _ _ rfl)
  have HN1 : Hid (NumsAt W1 a len F) := Lib.hid (HN.out.below HB1.out)
  rw [hW1]
  clear hW1
  refine (fullB a cap F lk ft h1 hl hf.out _ HN1.out).mono ?_
  rintro e W2 ⟨rfl, hb⟩
  have HX2 : Hid (W2.heap[w.heap.size]? = some (tankB a len cap lk ft)) := Lib.hid (heap_lft HX1.out hb)
  have HN2 := Lib.hid (HN1.out.below hb)
  have HB2 := Lib.hid (below_thn HB1.out hb)
  clear hb
  have t0 := heap_cell HX2.out (j := 0) rfl
  have t1 := heap_cell HX2.out (j := 1) rfl
  have t2 := heap_cell HX2.out (j := 2) rfl
  go_wp2_with fail
  refine (withinE (hi := f) p 0 _ _ _ (cells_top _ _ _ (by simp) 0) ri (bools_same.trans hri.out)).mono ?_
  rintro e W3 ⟨rfl, hb⟩
  clear t0 t1 t2
  have hb := (below_new W2 (.cells #[.int .i64 p] 3)).trans (hb.mono (by simp))
  have HX3 : Hid (W3.heap[w.heap.size]? = some (tankB a len cap lk ft)) := Lib.hid (heap_lft HX2.out hb)
  have HN3 := Lib.hid (HN2.out.below hb)
  have HB3 := Lib.hid (below_thn HB2.out hb)
  clear hb
  have t0 := heap_cell HX3.out (j := 0) rfl
  have t1 := heap_cell HX3.out (j := 1) rfl
  have t2 := heap_cell HX3.out (j := 2) rfl
  go_wp2_with fail
  refine (unless_any _ _ _).mono ?_
  rintro e' w' ⟨rfl, rfl⟩
  go_wp2_with fail
  go_ret
  exact ⟨rfl, HB3.out⟩

set_option maxHeartbeats 4000000 in
set_option maxRecDepth 100000 in
theorem eighth_top (a : Option Addr) (len cap : Nat) (F : Nat → Int) (lk ft p : Int) (hl : len ≤ 40) (w : World) (h : NumsAt w a len F) :
    Calls Try.prog 8 #[tankV a len cap lk ft, .int .i64 p] w fun ee w' => ee = .returned (Pure.resV (Pure.code2 (Pure.okTank len F lk ft) (decide (0 ≤ p ∧ p ≤ F (len - 1))) 30 2) (Pure.eighthN F p (Pure.seek F p (len - 2) 0)) (Pure.eighthD F p (Pure.seek F p (len - 2) 0))) ∧ Below w.heap.size w w' := by
  have HN := Lib.hid h
  clear h
  obtain ⟨ok, hok⟩ : ∃ ok, Pure.okTank len F lk ft = ok := ⟨_, rfl⟩
  obtain ⟨hh, hhh⟩ : ∃ hh, 8 * ((len : Int) - 1) = hh := ⟨_, rfl⟩
  obtain ⟨m, hm⟩ : ∃ m, F (len - 1) = m := ⟨_, rfl⟩
  obtain ⟨ri, hri⟩ : ∃ r, decide (0 ≤ p ∧ p ≤ m) = r := ⟨_, rfl⟩
  rw [hok, hm, hri]
  have HOK := Lib.hid hok
  have HM := Lib.hid hm
  have HRI := Lib.hid hri
  clear hok hhh hri hm
  go_enter Try.func8, Try.ntmps8
  go_wp2_with fail
  obtain ⟨W1, hW1⟩ : ∃ W, ((w.alloc (tankB a len cap lk ft)).alloc (.cells #[.int .i64 0, .int .i64 0] 30)) = W := ⟨_, rfl⟩
  have HB1 : Hid (Below w.heap.size w W1) := Lib.hid (by rw [← hW1]; exact (((Below.refl _ _).alloc (Nat.le_refl _) _).alloc (by simp <;> omega) _))
  have HX1 : Hid (W1.heap[w.heap.size]? = some (tankB a len cap lk ft) ∧ W1.heap[w.heap.size + 1]? = some (.cells #[.int .i64 0, .int .i64 0] 30)) := Lib.hid (by rw [← hW1]; exact ⟨heap_up (heap_top _ _ rfl) _, heap_top _ _ (by simp)⟩)
  have HN1 : Hid (NumsAt W1 a len F) := Lib.hid (HN.out.below HB1.out)
  rw [hW1]
  clear hW1
  refine (check_any a len cap F lk ft hl _ HN1.out).mono ?_
  rintro e W2 ⟨rfl, hb⟩
  have HX2 : Hid (W2.heap[w.heap.size]? = some (tankB a len cap lk ft) ∧ W2.heap[w.heap.size + 1]? = some (.cells #[.int .i64 0, .int .i64 0] 30)) := Lib.hid ⟨heap_lft HX1.out.1 hb, heap_lft HX1.out.2 hb⟩
  have HN2 := Lib.hid (HN1.out.below hb)
  have HB2 := Lib.hid (below_thn HB1.out hb)
  clear hb
  have t0 := heap_cell HX2.out.1 (j := 0) rfl
  have t1 := heap_cell HX2.out.1 (j := 1) rfl
  have t2 := heap_cell HX2.out.1 (j := 2) rfl
  have r0 := heap_cell HX2.out.2 (j := 0) rfl
  have fr0 := heap_frozen HX2.out.2 0
  have r1 := heap_cell HX2.out.2 (j := 1) rfl
  have fr1 := heap_frozen HX2.out.2 1
  rw [HOK.out]
  cases ok with
  | false =>
    go_wp2_with fail
    refine bodyPost_ret (v := .tuple #[.agg #[.int .i64 0, .int .i64 0], .int .i64 30]) (by first | (simp [results, Try.results8, go_sem, r0, r1]; done) | (simp [results, Try.results8, go_sem, Pure.err_false, r0, r1]; done)) rfl ⟨rfl, ?_⟩
    exact ((HB2.out.setCell (p := ⟨w.heap.size + 1, 0, none⟩) (by simp) _).setCell (p := ⟨w.heap.size + 1, 1, none⟩) (by simp) _)
  | true =>
    have hkk := Pure.okTank_iff.1 HOK.out
    have hl2 : 2 ≤ len := hkk.1.1
    have HKK := Lib.hid hkk
    clear hkk
    go_wp2_with fail
    refine (checkPints_any a len cap F lk ft p (by omega) hl HM HRI _ HN2.out).mono ?_
    rintro e W3 ⟨rfl, hb⟩
    clear t0 t1 t2 r0 fr0 r1 fr1
    have HX3 : Hid (W3.heap[w.heap.size]? = some (tankB a len cap lk ft) ∧ W3.heap[w.heap.size + 1]? = some (.cells #[.int .i64 0, .int .i64 0] 30)) := Lib.hid ⟨heap_lft HX2.out.1 hb, heap_lft HX2.out.2 hb⟩
    have HN3 := Lib.hid (HN2.out.below hb)
    have HB3 := Lib.hid (below_thn HB2.out hb)
    clear hb
    have t0 := heap_cell HX3.out.1 (j := 0) rfl
    have t1 := heap_cell HX3.out.1 (j := 1) rfl
    have t2 := heap_cell HX3.out.1 (j := 2) rfl
    have r0 := heap_cell HX3.out.2 (j := 0) rfl
    have fr0 := heap_frozen HX3.out.2 0
    have r1 := heap_cell HX3.out.2 (j := 1) rfl
    have fr1 := heap_frozen HX3.out.2 1
    cases ri with
    | false =>
      go_wp2_with fail
      refine bodyPost_ret (v := .tuple #[.agg #[.int .i64 0, .int .i64 0], .int .i64 2]) (by first | (simp [results, Try.results8, go_sem, r0, r1]; done) | (simp [results, Try.results8, go_sem, Pure.err_false, r0, r1]; done)) rfl ⟨rfl, ?_⟩
      exact ((HB3.out.setCell (p := ⟨w.heap.size + 1, 0, none⟩) (by simp) _).setCell (p := ⟨w.heap.size + 1, 1, none⟩) (by simp) _)
    | true =>
      have hr := HRI.out
      simp only [decide_eq_true_eq] at hr
      obtain ⟨p0, p1⟩ := hr
      have P0 := Lib.hid p0
      have P1 : Hid (p ≤ F (len - 1)) := Lib.hid (by rw [HM.out]; exact p1)
      clear p0 p1
      go_wp2_with fail
      refine (eighth_any a len cap F lk ft p HKK.out P0.out P1.out _ HN3.out).mono ?_
      rintro e W4 ⟨rfl, hb⟩
      clear t0 t1 t2 r0 fr0 r1 fr1
      have HX4 : Hid (W4.heap[w.heap.size]? = some (tankB a len cap lk ft) ∧ W4.heap[w.heap.size + 1]? = some (.cells #[.int .i64 0, .int .i64 0] 30)) := Lib.hid ⟨heap_lft HX3.out.1 hb, heap_lft HX3.out.2 hb⟩
      have HN4 := Lib.hid (HN3.out.below hb)
      have HB4 := Lib.hid (below_thn HB3.out hb)
      clear hb
      have t0 := heap_cell HX4.out.1 (j := 0) rfl
      have t1 := heap_cell HX4.out.1 (j := 1) rfl
      have t2 := heap_cell HX4.out.1 (j := 2) rfl
      have r0 := heap_cell HX4.out.2 (j := 0) rfl
      have fr0 := heap_frozen HX4.out.2 0
      have r1 := heap_cell HX4.out.2 (j := 1) rfl
      have fr1 := heap_frozen HX4.out.2 1
      go_wp2_with fail
      refine bodyPost_ret (v := .tuple #[.agg #[.int .i64 (Pure.eighthN F p (Pure.seek F p (len - 2) 0)), .int .i64 (Pure.eighthD F p (Pure.seek F p (len - 2) 0))], .int .i64 0]) (by first | (simp [results, Try.results8, go_sem, r0, r1]; done) | (simp [results, Try.results8, go_sem, Pure.err_false, r0, r1]; done)) rfl ⟨rfl, ?_⟩
      exact ((HB4.out.setCell (p := ⟨w.heap.size + 1, 0, none⟩) (by simp) _).setCell (p := ⟨w.heap.size + 1, 1, none⟩) (by simp) _)

set_option maxHeartbeats 4000000 in
set_option maxRecDepth 100000 in
theorem rEighth_top (a : Option Addr) (len cap : Nat) (F : Nat → Int) (lk ft p : Int) (hl : len ≤ 40) (w : World) (h : NumsAt w a len F) :
    Calls Try.prog 9 #[tankV a len cap lk ft, .int .i64 p] w fun ee w' => ee = .returned (Pure.resV (Pure.code2 (Pure.okTank len F lk ft) (decide (0 ≤ p ∧ p ≤ F (len - 1))) 30 2) (Pure.eighthN F p (Pure.seek F p (len - 2) 0)) (Pure.eighthD F p (Pure.seek F p (len - 2) 0))) ∧ Below w.heap.size w w' := by
  have HN := Lib.hid h
  clear h
  obtain ⟨ok, hok⟩ : ∃ ok, Pure.okTank len F lk ft = ok := ⟨_, rfl⟩
  obtain ⟨hh, hhh⟩ : ∃ hh, 8 * ((len : Int) - 1) = hh := ⟨_, rfl⟩
  obtain ⟨m, hm⟩ : ∃ m, F (len - 1) = m := ⟨_, rfl⟩
  obtain ⟨ri, hri⟩ : ∃ r, decide (0 ≤ p ∧ p ≤ m) = r := ⟨_, rfl⟩
  rw [hok, hm, hri]
  have HOK := Lib.hid hok
  have HM := Lib.hid hm
  have HRI := Lib.hid hri
  clear hok hhh hri hm
  go_enter Try.func9, Try.ntmps9
  go_wp2_with fail
  obtain ⟨W1, hW1⟩ : ∃ W, ((w.alloc (tankB a len cap lk ft)).alloc (.cells #[.int .i64 0, .int .i64 0] 30)) = W := ⟨_, rfl⟩
  have HB1 : Hid (Below w.heap.size w W1) := Lib.hid (by rw [← hW1]; exact (((Below.refl _ _).alloc (Nat.le_refl _) _).alloc (by simp <;> omega) _))
  have HX1 : Hid (W1.heap[w.heap.size]? = some (tankB a len cap lk ft) ∧ W1.heap[w.heap.size + 1]? = some (.cells #[.int .i64 0, .int .i64 0] 30)) := Lib.hid (by rw [← hW1]; exact ⟨heap_up (heap_top _ _ rfl) _, heap_top _ _ (by simp)⟩)
  have HN1 : Hid (NumsAt W1 a len F) := Lib.hid (HN.out.below HB1.out)
  rw [hW1]
  clear hW1
  refine (rTank_any a len cap F lk ft hl _ HN1.out).mono ?_
  rintro e W2 ⟨rfl, hb⟩
  have HX2 : Hid (W2.heap[w.heap.size]? = some (tankB a len cap lk ft) ∧ W2.heap[w.heap.size + 1]? = some (.cells #[.int .i64 0, .int .i64 0] 30)) := Lib.hid ⟨heap_lft HX1.out.1 hb, heap_lft HX1.out.2 hb⟩
  have HN2 := Lib.hid (HN1.out.below hb)
  have HB2 := Lib.hid (below_thn HB1.out hb)
  clear hb
  have t0 := heap_cell HX2.out.1 (j := 0) rfl
  have t1 := heap_cell HX2.out.1 (j := 1) rfl
  have t2 := heap_cell HX2.out.1 (j := 2) rfl
  have r0 := heap_cell HX2.out.2 (j := 0) rfl
  have fr0 := heap_frozen HX2.out.2 0
  have r1 := heap_cell HX2.out.2 (j := 1) rfl
  have fr1 := heap_frozen HX2.out.2 1
  rw [HOK.out]
  cases ok with
  | false =>
    go_wp2_with fail
    refine bodyPost_ret (v := .tuple #[.agg #[.int .i64 0, .int .i64 0], .int .i64 30]) (by first | (simp [results, Try.results9, go_sem, r0, r1]; done) | (simp [results, Try.results9, go_sem, Pure.err_false, r0, r1]; done)) rfl ⟨rfl, ?_⟩
    exact ((HB2.out.setCell (p := ⟨w.heap.size + 1, 0, none⟩) (by simp) _).setCell (p := ⟨w.heap.size + 1, 1, none⟩) (by simp) _)
  | true =>
    have hkk := Pure.okTank_iff.1 HOK.out
    have hl2 : 2 ≤ len := hkk.1.1
    have HKK := Lib.hid hkk
    clear hkk
    go_wp2_with fail
    refine (rFullB a cap F lk ft (by omega) hl HM.out _ HN2.out).mono ?_
    rintro e W3 ⟨rfl, hb⟩
    clear t0 t1 t2 r0 fr0 r1 fr1
    have HX3 : Hid (W3.heap[w.heap.size]? = some (tankB a len cap lk ft) ∧ W3.heap[w.heap.size + 1]? = some (.cells #[.int .i64 0, .int .i64 0] 30)) := Lib.hid ⟨heap_lft HX2.out.1 hb, heap_lft HX2.out.2 hb⟩
    have HN3 := Lib.hid (HN2.out.below hb)
    have HB3 := Lib.hid (below_thn HB2.out hb)
    clear hb
    have t0 := heap_cell HX3.out.1 (j := 0) rfl
    have t1 := heap_cell HX3.out.1 (j := 1) rfl
    have t2 := heap_cell HX3.out.1 (j := 2) rfl
    have r0 := heap_cell HX3.out.2 (j := 0) rfl
    have fr0 := heap_frozen HX3.out.2 0
    have r1 := heap_cell HX3.out.2 (j := 1) rfl
    have fr1 := heap_frozen HX3.out.2 1
    go_wp2_with fail
    refine (rWithinE p 0 m ri HRI.out _).mono ?_
    rintro e' w' ⟨rfl, rfl⟩
    cases ri with
    | false =>
      go_wp2_with fail
      refine bodyPost_ret (v := .tuple #[.agg #[.int .i64 0, .int .i64 0], .int .i64 2]) (by first | (simp [results, Try.results9, go_sem, r0, r1]; done) | (simp [results, Try.results9, go_sem, Pure.err_false, r0, r1]; done)) rfl ⟨rfl, ?_⟩
      exact ((HB3.out.setCell (p := ⟨w.heap.size + 1, 0, none⟩) (by simp) _).setCell (p := ⟨w.heap.size + 1, 1, none⟩) (by simp) _)
    | true =>
      have hr := HRI.out
      simp only [decide_eq_true_eq] at hr
      obtain ⟨p0, p1⟩ := hr
      have P0 := Lib.hid p0
      have P1 : Hid (p ≤ F (len - 1)) := Lib.hid (by rw [HM.out]; exact p1)
      have m1 : m ≤ 600 := by have := Pure.table_ge HKK.out (i := len - 1) (by omega); have := HM.out; omega
      obtain ⟨b, off, rfl⟩ := HN3.out.some (by omega)
      go_wp2_with fail
      go_loop [6] (fun i => ∃ k : Nat, i = .int .i64 k ∧ k + 2 ≤ len ∧ (k = 0 ∨ F k ≤ p)) (fun i => len - (intOf i).toNat)
      case atStart => exact ⟨0, rfl, by omega, .inl rfl⟩
      case round =>
        obtain ⟨k, rfl, hk, hs⟩ := hrel
        have HS := Lib.hid hs
        clear hs
        have k1 : (k : Int) + 1 < len := by omega
        have c1 := HN3.out.at (show k + 1 < len by omega)
        by_cases hlt : k + 2 < len ∧ F (k + 1) ≤ p
        · obtain ⟨h2, h3⟩ := hlt
          have k2 : (k : Int) + 2 < len := by omega
          go_wp2_with fail
          go_round
          case rel => exact ⟨k + 1, by go_num, by omega, .inr h3⟩
          case measure => simp [intOf]; omega
        · have HLT : Hid (k + 2 < len → p < F (k + 1)) := Lib.hid (fun g => by
            rcases Int.lt_or_le p (F (k + 1)) with h | h
            · exact h
            · exact absurd ⟨g, h⟩ hlt)
          clear hlt
          by_cases h2 : k + 2 < len
          · have h3 : ¬ F (k + 1) ≤ p := by have := HLT.out h2; omega
            have k2 : (k : Int) + 2 < len := by omega
            go_wp2_with fail
            obtain ⟨y0, y1⟩ := Pure.table_ge HKK.out (i := k) (by omega)
            obtain ⟨y2, y3⟩ := Pure.table_ge HKK.out (i := k + 1) (by omega)
            have y4 := Pure.ordered_lt HKK.out.2.1.2.1 (i := k) (j := k + 1) (by omega) (by omega)
            have c0 := HN3.out.at (show k < len by omega)
            have HFK : Hid (F k ≤ p) := Lib.hid (by
              rcases HS.out with h | h
              · have := HKK.out.2.1.1
                rw [h, this]; omega
              · exact h)
            have HQ : Hid (∀ d n : Int, d = F (k + 1) - F k → n = 8 * ((k : Int) * (F (k + 1) - F k) + p - F k) → n / Pure.gcd n d = Pure.eighthN F p (Pure.seek F p (len - 2) 0) ∧ d / Pure.gcd n d = Pure.eighthD F p (Pure.seek F p (len - 2) 0)) := Lib.hid (fun d n hd hn => by
              subst hd
              subst hn
              have hsp := Pure.seek_spec (F := F) (p := p) (len - 2) 0 (by rw [show 0 + (len - 2) + 1 = len - 1 by omega]; exact P1.out) (.inl rfl)
              obtain ⟨e1, e2⟩ := Pure.eighth_same HKK.out.2.1.2.1 (p := p) (i := Pure.seek F p (len - 2) 0) (j := k) (by omega) (by omega) (by rw [HKK.out.2.1.1]; omega) hsp.1 hsp.2.1 HLT.out HS.out
              rw [e1, e2]
              exact ⟨rfl, rfl⟩)
            have fp := HFK.out
            obtain ⟨f, hf⟩ : ∃ f, F k = f := ⟨_, rfl⟩
            obtain ⟨g, hg⟩ : ∃ g, F (k + 1) = g := ⟨_, rfl⟩
            rw [hg, hf] at HQ y4
            rw [hf] at c0 y0 y1 fp
            rw [hg] at c1 y2 y3
            rw [hg] at h3
            try rw [hg]
            clear hf hg
            have k3 : (k : Int) < len := by omega
            have k4 : (k : Int) ≤ 38 := by omega
            have m2 := Int.mul_le_mul (show 8 * (k : Int) ≤ 304 by omega) (show g - f ≤ 600 by omega) (by omega) (by omega)
            have m3 := Int.mul_nonneg (show 0 ≤ 8 * (k : Int) by omega) (show 0 ≤ g - f by omega)
            have HM2 := Lib.hid m2
            have q2 : IntKind.i64.wrap ((k : Int) + 1) = (k : Int) + 1 := IntWalk.i64_in _ (by omega)
            have q3 : ((k : Int) + 1).toNat = k + 1 := by omega
            have q4 : IntKind.i64.wrap (g - f) = g - f := IntWalk.i64_in _ (by omega)
            have C0 := Lib.hid c0
            have x0 := among_below c0
            have x1 := among_below c1
            have x2 := among_below t0
            have HSt : Hid (Below W3.heap.size W3 W3.drew) := Lib.hid (Below.refl _ _).drew
            have hne : Nonempty (Among (Below W3.heap.size W3)) := ⟨⟨_, HSt.out⟩⟩
            clear c0 c1 m2 t0 t1 t2 r0 r1 fr0 fr1
            refine wp_region_class (Below W3.heap.size W3) (by kernel_rfl) (by kernel_rfl) HSt.out ?_
            repeat (go_big_quiet_step (fail))
            refine wpQuiet_nil ?_
            intro W4 hx
            have hb := among_out hx
            clear hx hne x0 x1 x2 q2 q3 q4
            have c0 := below_cell hb C0.out
            have HX4 : Hid (W4.heap[w.heap.size]? = some (tankB (some ⟨b, off, none⟩) len cap lk ft) ∧ W4.heap[w.heap.size + 1]? = some (.cells #[.int .i64 0, .int .i64 0] 30)) := Lib.hid ⟨heap_lft HX3.out.1 hb, heap_lft HX3.out.2 hb⟩
            have HN4 := Lib.hid (HN3.out.below hb)
            have HB4 := Lib.hid (below_thn HB3.out hb)
            clear hb
            have t0 := heap_cell HX4.out.1 (j := 0) rfl
            have t1 := heap_cell HX4.out.1 (j := 1) rfl
            have t2 := heap_cell HX4.out.1 (j := 2) rfl
            have r0 := heap_cell HX4.out.2 (j := 0) rfl
            have fr0 := heap_frozen HX4.out.2 0
            have r1 := heap_cell HX4.out.2 (j := 1) rfl
            have fr1 := heap_frozen HX4.out.2 1
            have m4 : 8 * (k : Int) * (g - f) ≤ 182400 := by have := HM2.out; omega
            go_wp2_with fail
            refine (rLeast_any (8 * (k : Int) * (g - f) + 8 * (p - f)) (g - f) (by omega) (by omega) (by omega) (by omega) _).mono ?_
            rintro e W5 ⟨rfl, hb⟩
            clear t0 t1 t2 r0 r1 fr0 fr1 c0
            have HX5 : Hid (W5.heap[w.heap.size]? = some (tankB (some ⟨b, off, none⟩) len cap lk ft) ∧ W5.heap[w.heap.size + 1]? = some (.cells #[.int .i64 0, .int .i64 0] 30)) := Lib.hid ⟨heap_lft HX4.out.1 hb, heap_lft HX4.out.2 hb⟩
            have HN5 := Lib.hid (HN4.out.below hb)
            have HB5 := Lib.hid (below_thn HB4.out hb)
            clear hb
            have t0 := heap_cell HX5.out.1 (j := 0) rfl
            have t1 := heap_cell HX5.out.1 (j := 1) rfl
            have t2 := heap_cell HX5.out.1 (j := 2) rfl
            have r0 := heap_cell HX5.out.2 (j := 0) rfl
            have fr0 := heap_frozen HX5.out.2 0
            have r1 := heap_cell HX5.out.2 (j := 1) rfl
            have fr1 := heap_frozen HX5.out.2 1
            go_wp2_with fail
            obtain ⟨z1, z2⟩ := HQ.out (g - f) (8 * (k : Int) * (g - f) + 8 * (p - f)) rfl (by rw [Int.mul_assoc]; omega)
            refine bodyPost_ret (v := .tuple #[.agg #[.int .i64 (Pure.eighthN F p (Pure.seek F p (len - 2) 0)), .int .i64 (Pure.eighthD F p (Pure.seek F p (len - 2) 0))], .int .i64 0]) (by first | (simp [results, Try.results9, go_sem, r0, r1, z1, z2]; done) | (simp [results, Try.results9, go_sem, Pure.err_false, r0, r1, z1, z2]; done)) rfl ⟨rfl, ?_⟩
            exact ((HB5.out.setCell (p := ⟨w.heap.size + 1, 0, none⟩) (by simp) _).setCell (p := ⟨w.heap.size + 1, 1, none⟩) (by simp) _)
          · have k2 : ¬ (k : Int) + 2 < len := by omega
            go_wp2_with fail
            obtain ⟨y0, y1⟩ := Pure.table_ge HKK.out (i := k) (by omega)
            obtain ⟨y2, y3⟩ := Pure.table_ge HKK.out (i := k + 1) (by omega)
            have y4 := Pure.ordered_lt HKK.out.2.1.2.1 (i := k) (j := k + 1) (by omega) (by omega)
            have c0 := HN3.out.at (show k < len by omega)
            have HFK : Hid (F k ≤ p) := Lib.hid (by
              rcases HS.out with h | h
              · have := HKK.out.2.1.1
                rw [h, this]; omega
              · exact h)
            have HQ : Hid (∀ d n : Int, d = F (k + 1) - F k → n = 8 * ((k : Int) * (F (k + 1) - F k) + p - F k) → n / Pure.gcd n d = Pure.eighthN F p (Pure.seek F p (len - 2) 0) ∧ d / Pure.gcd n d = Pure.eighthD F p (Pure.seek F p (len - 2) 0)) := Lib.hid (fun d n hd hn => by
              subst hd
              subst hn
              have hsp := Pure.seek_spec (F := F) (p := p) (len - 2) 0 (by rw [show 0 + (len - 2) + 1 = len - 1 by omega]; exact P1.out) (.inl rfl)
              obtain ⟨e1, e2⟩ := Pure.eighth_same HKK.out.2.1.2.1 (p := p) (i := Pure.seek F p (len - 2) 0) (j := k) (by omega) (by omega) (by rw [HKK.out.2.1.1]; omega) hsp.1 hsp.2.1 HLT.out HS.out
              rw [e1, e2]
              exact ⟨rfl, rfl⟩)
            have fp := HFK.out
            obtain ⟨f, hf⟩ : ∃ f, F k = f := ⟨_, rfl⟩
            obtain ⟨g, hg⟩ : ∃ g, F (k + 1) = g := ⟨_, rfl⟩
            rw [hg, hf] at HQ y4
            rw [hf] at c0 y0 y1 fp
            rw [hg] at c1 y2 y3
            try rw [hg]
            clear hf hg
            have k3 : (k : Int) < len := by omega
            have k4 : (k : Int) ≤ 38 := by omega
            have m2 := Int.mul_le_mul (show 8 * (k : Int) ≤ 304 by omega) (show g - f ≤ 600 by omega) (by omega) (by omega)
            have m3 := Int.mul_nonneg (show 0 ≤ 8 * (k : Int) by omega) (show 0 ≤ g - f by omega)
            have HM2 := Lib.hid m2
            have q2 : IntKind.i64.wrap ((k : Int) + 1) = (k : Int) + 1 := IntWalk.i64_in _ (by omega)
            have q3 : ((k : Int) + 1).toNat = k + 1 := by omega
            have q4 : IntKind.i64.wrap (g - f) = g - f := IntWalk.i64_in _ (by omega)
            have C0 := Lib.hid c0
            have x0 := among_below c0
            have x1 := among_below c1
            have x2 := among_below t0
            have HSt : Hid (Below W3.heap.size W3 W3.drew) := Lib.hid (Below.refl _ _).drew
            have hne : Nonempty (Among (Below W3.heap.size W3)) := ⟨⟨_, HSt.out⟩⟩
            clear c0 c1 m2 t0 t1 t2 r0 r1 fr0 fr1
            refine wp_region_class (Below W3.heap.size W3) (by kernel_rfl) (by kernel_rfl) HSt.out ?_
            repeat (go_big_quiet_step (fail))
            refine wpQuiet_nil ?_
            intro W4 hx
            have hb := among_out hx
            clear hx hne x0 x1 x2 q2 q3 q4
            have c0 := below_cell hb C0.out
            have HX4 : Hid (W4.heap[w.heap.size]? = some (tankB (some ⟨b, off, none⟩) len cap lk ft) ∧ W4.heap[w.heap.size + 1]? = some (.cells #[.int .i64 0, .int .i64 0] 30)) := Lib.hid ⟨heap_lft HX3.out.1 hb, heap_lft HX3.out.2 hb⟩
            have HN4 := Lib.hid (HN3.out.below hb)
            have HB4 := Lib.hid (below_thn HB3.out hb)
            clear hb
            have t0 := heap_cell HX4.out.1 (j := 0) rfl
            have t1 := heap_cell HX4.out.1 (j := 1) rfl
            have t2 := heap_cell HX4.out.1 (j := 2) rfl
            have r0 := heap_cell HX4.out.2 (j := 0) rfl
            have fr0 := heap_frozen HX4.out.2 0
            have r1 := heap_cell HX4.out.2 (j := 1) rfl
            have fr1 := heap_frozen HX4.out.2 1
            have m4 : 8 * (k : Int) * (g - f) ≤ 182400 := by have := HM2.out; omega
            go_wp2_with fail
            refine (rLeast_any (8 * (k : Int) * (g - f) + 8 * (p - f)) (g - f) (by omega) (by omega) (by omega) (by omega) _).mono ?_
            rintro e W5 ⟨rfl, hb⟩
            clear t0 t1 t2 r0 r1 fr0 fr1 c0
            have HX5 : Hid (W5.heap[w.heap.size]? = some (tankB (some ⟨b, off, none⟩) len cap lk ft) ∧ W5.heap[w.heap.size + 1]? = some (.cells #[.int .i64 0, .int .i64 0] 30)) := Lib.hid ⟨heap_lft HX4.out.1 hb, heap_lft HX4.out.2 hb⟩
            have HN5 := Lib.hid (HN4.out.below hb)
            have HB5 := Lib.hid (below_thn HB4.out hb)
            clear hb
            have t0 := heap_cell HX5.out.1 (j := 0) rfl
            have t1 := heap_cell HX5.out.1 (j := 1) rfl
            have t2 := heap_cell HX5.out.1 (j := 2) rfl
            have r0 := heap_cell HX5.out.2 (j := 0) rfl
            have fr0 := heap_frozen HX5.out.2 0
            have r1 := heap_cell HX5.out.2 (j := 1) rfl
            have fr1 := heap_frozen HX5.out.2 1
            go_wp2_with fail
            obtain ⟨z1, z2⟩ := HQ.out (g - f) (8 * (k : Int) * (g - f) + 8 * (p - f)) rfl (by rw [Int.mul_assoc]; omega)
            refine bodyPost_ret (v := .tuple #[.agg #[.int .i64 (Pure.eighthN F p (Pure.seek F p (len - 2) 0)), .int .i64 (Pure.eighthD F p (Pure.seek F p (len - 2) 0))], .int .i64 0]) (by first | (simp [results, Try.results9, go_sem, r0, r1, z1, z2]; done) | (simp [results, Try.results9, go_sem, Pure.err_false, r0, r1, z1, z2]; done)) rfl ⟨rfl, ?_⟩
            exact ((HB5.out.setCell (p := ⟨w.heap.size + 1, 0, none⟩) (by simp) _).setCell (p := ⟨w.heap.size + 1, 1, none⟩) (by simp) _)

end Go.Proofs.Ytpgpebgimmaobaa
