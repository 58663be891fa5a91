/-
  The contracts of Range, and of the specification's own.
-/
import Derived.Test.YtpgpebgimmaobaaTSays
namespace Go.Proofs.Ytpgpebgimmaobaa
open Go.RowKit

namespace Pure
def code3 (a b c : Bool) (x y z : Int) : Int := if a then (if b then (if c then 0 else z) else y) else x
end Pure
theorem isSpanToE {s : Bool} (m x y : Int) (h : Pure.okSpan m x y = s) (w : World) : Calls Try.prog 27 #[.int .i64 m, spanV x y] w fun e w' => e = .returned (.bool s) ∧ Below w.heap.size w w' :=
  (isSpanTo_any m x y w).mono fun _ _ g => ⟨g.1.trans (by rw [h]), g.2⟩
theorem spannedE {s : Bool} (m x y : Int) (h : Pure.okSpan m x y = s) (w : World) : Calls Try.prog 30 #[spanV x y, .int .i64 m] w fun e w' => e = .returned (.bool s) ∧ Below w.heap.size w w' :=
  (spanned_any x y m w).mono fun _ _ g => ⟨g.1.trans (by rw [h]), by rw [g.2]; exact below_new _ _⟩
set_option maxHeartbeats 4000000 in
set_option maxRecDepth 100000 in
theorem range_top (a : Option Addr) (len cap : Nat) (F : Nat → Int) (lk ft x y : Int) (hl : len ≤ 40) (w : World) (h : NumsAt w a len F) :
    Calls Try.prog 10 #[tankV a len cap lk ft, spanV x y] w fun ee w' => ee = .returned (Pure.resV (Pure.code3 (Pure.okTank len F lk ft) (Pure.okSpan (8 * ((len : Int) - 1)) x y) (decide ((Pure.vol F x + 7) / 8 ≤ Pure.vol F y / 8)) 30 2 6) ((Pure.vol F x + 7) / 8) (Pure.vol F y / 8)) ∧ Below w.heap.size w w' := by
  have HN := Lib.hid h
  clear h
  obtain ⟨ok, hok⟩ : ∃ ok, Pure.okTank len F lk ft = ok := ⟨_, rfl⟩
  obtain ⟨hh, hhh⟩ : ∃ hh, 8 * ((len : Int) - 1) = hh := ⟨_, rfl⟩
  obtain ⟨rs, hrs⟩ : ∃ r, Pure.okSpan hh x y = r := ⟨_, rfl⟩
  rw [hok, hhh, hrs]
  have HOK := Lib.hid hok
  have HHH := Lib.hid hhh
  have HRS := Lib.hid hrs
  clear hok hhh hrs
  go_enter Try.func10, Try.ntmps10
  go_wp2_with fail
  obtain ⟨W1, hW1⟩ : ∃ W, (((w.alloc (tankB a len cap lk ft)).alloc (spanB x y)).alloc (.cells #[.int .i64 0, .int .i64 0] 26)) = W := ⟨_, rfl⟩
  have HB1 : Hid (Below w.heap.size w W1) := Lib.hid (by rw [← hW1]; exact ((((Below.refl _ _).alloc (Nat.le_refl _) _).alloc (by simp <;> omega) _).alloc (by simp <;> omega) _))
  have HX1 : Hid (W1.heap[w.heap.size]? = some (tankB a len cap lk ft) ∧ W1.heap[w.heap.size + 1]? = some (spanB x y) ∧ W1.heap[w.heap.size + 1 + 1]? = some (.cells #[.int .i64 0, .int .i64 0] 26)) := Lib.hid (by rw [← hW1]; exact ⟨heap_up (heap_up (heap_top _ _ rfl) _) _, heap_up (heap_top _ _ (by simp)) _, heap_top _ _ (by simp)⟩)
  have HN1 : Hid (NumsAt W1 a len F) := Lib.hid (HN.out.below HB1.out)
  rw [hW1]
  clear hW1
  refine (check_any a len cap F lk ft hl _ HN1.out).mono ?_
  rintro e W2 ⟨rfl, hb⟩
  have HX2 : Hid (W2.heap[w.heap.size]? = some (tankB a len cap lk ft) ∧ W2.heap[w.heap.size + 1]? = some (spanB x y) ∧ W2.heap[w.heap.size + 1 + 1]? = some (.cells #[.int .i64 0, .int .i64 0] 26)) := Lib.hid ⟨heap_lft HX1.out.1 hb, heap_lft HX1.out.2.1 hb, heap_lft HX1.out.2.2 hb⟩
  have HN2 := Lib.hid (HN1.out.below hb)
  have HB2 := Lib.hid (below_thn HB1.out hb)
  clear hb
  have t0 := heap_cell HX2.out.1 (j := 0) rfl
  have t1 := heap_cell HX2.out.1 (j := 1) rfl
  have t2 := heap_cell HX2.out.1 (j := 2) rfl
  have s0 := heap_cell HX2.out.2.1 (j := 0) rfl
  have s1 := heap_cell HX2.out.2.1 (j := 1) rfl
  have r0 := heap_cell HX2.out.2.2 (j := 0) rfl
  have fr0 := heap_frozen HX2.out.2.2 0
  have r1 := heap_cell HX2.out.2.2 (j := 1) rfl
  have fr1 := heap_frozen HX2.out.2.2 1
  rw [HOK.out]
  cases ok with
  | false =>
    go_wp2_with fail
    refine bodyPost_ret (v := .tuple #[.agg #[.int .i64 0, .int .i64 0], .int .i64 30]) (by first | (simp [results, Try.results10, go_sem, r0, r1]; done) | (simp [results, Try.results10, go_sem, Pure.err_false, r0, r1]; done)) rfl ⟨rfl, ?_⟩
    exact ((HB2.out.setCell (p := ⟨w.heap.size + 1 + 1, 0, none⟩) (by first | (simp; done) | (simp; omega)) _).setCell (p := ⟨w.heap.size + 1 + 1, 1, none⟩) (by first | (simp; done) | (simp; omega)) _)
  | true =>
    go_wp2_with fail
    have x0 := among_below t0
    have x1 := among_below t1
    have x2 := among_below t2
    have z0 := among_below s0
    have z1 := among_below s1
    have HC1 : Hid (∀ xq : Among (Below W2.heap.size W2), Calls Try.prog 16 #[tankV a len cap lk ft] xq.val fun e w' => e = .returned (.int .i64 hh) ∧ ∃ y : Among (Below W2.heap.size W2), w' = y.val) := Lib.hid (fun xq => calls_class ((heightB a len cap lk ft hl HHH.out xq.val).mono fun e w' h => ⟨h.1, xq.ok.trans (h.2.mono xq.ok.size)⟩))
    have HC2 : Hid (∀ xq : Among (Below W2.heap.size W2), Calls Try.prog 27 #[.int .i64 hh, spanV x y] xq.val fun e w' => e = .returned (.bool rs) ∧ ∃ y : Among (Below W2.heap.size W2), w' = y.val) := Lib.hid (fun xq => calls_class ((isSpanToE hh x y HRS.out xq.val).mono fun e w' h => ⟨h.1, xq.ok.trans (h.2.mono xq.ok.size)⟩))
    have HSt : Hid (Below W2.heap.size W2 W2.drew) := Lib.hid (Below.refl _ _).drew
    have hne : Nonempty (Among (Below W2.heap.size W2)) := ⟨⟨_, HSt.out⟩⟩
    clear t0 t1 t2 s0 s1 r0 fr0 r1 fr1
    refine wp_region_class (Below W2.heap.size W2) (by kernel_rfl) (by kernel_rfl) HSt.out ?_
    repeat (go_big_quiet_step ((first | (go_at_call 16; with_reducible exact HC1.out _) | (go_at_call 27; with_reducible exact HC2.out _))))
    refine wpQuiet_nil ?_
    intro W3 hx
    have hb := among_out hx
    clear hx hne x0 x1 x2 z0 z1 HC1 HC2
    have HX3 : Hid (W3.heap[w.heap.size]? = some (tankB a len cap lk ft) ∧ W3.heap[w.heap.size + 1]? = some (spanB x y) ∧ W3.heap[w.heap.size + 1 + 1]? = some (.cells #[.int .i64 0, .int .i64 0] 26)) := Lib.hid ⟨heap_lft HX2.out.1 hb, heap_lft HX2.out.2.1 hb, heap_lft HX2.out.2.2 hb⟩
    have HN3 := Lib.hid (HN2.out.below hb)
    have HB3 := Lib.hid (below_thn HB2.out hb)
    clear hb
    have t0 := heap_cell HX3.out.1 (j := 0) rfl
    have t1 := heap_cell HX3.out.1 (j := 1) rfl
    have t2 := heap_cell HX3.out.1 (j := 2) rfl
    have s0 := heap_cell HX3.out.2.1 (j := 0) rfl
    have s1 := heap_cell HX3.out.2.1 (j := 1) rfl
    have r0 := heap_cell HX3.out.2.2 (j := 0) rfl
    have fr0 := heap_frozen HX3.out.2.2 0
    have r1 := heap_cell HX3.out.2.2 (j := 1) rfl
    have fr1 := heap_frozen HX3.out.2.2 1
    cases rs with
    | false =>
      go_wp2_with fail
      refine bodyPost_ret (v := .tuple #[.agg #[.int .i64 0, .int .i64 0], .int .i64 2]) (by first | (simp [results, Try.results10, go_sem, r0, r1]; done) | (simp [results, Try.results10, go_sem, Pure.err_false, r0, r1]; done)) rfl ⟨rfl, ?_⟩
      exact ((HB3.out.setCell (p := ⟨w.heap.size + 1 + 1, 0, none⟩) (by first | (simp; done) | (simp; omega)) _).setCell (p := ⟨w.heap.size + 1 + 1, 1, none⟩) (by first | (simp; done) | (simp; omega)) _)
    | true =>
      have hs := HRS.out
      unfold Pure.okSpan at hs
      simp only [decide_eq_true_eq] at hs
      have HSP : Hid (0 ≤ x ∧ x ≤ y ∧ y ≤ 8 * ((len : Int) - 1)) := Lib.hid (by have := HHH.out; omega)
      have hkk := Pure.okTank_iff.1 HOK.out
      have HKK := Lib.hid hkk
      obtain ⟨v0, v1⟩ := Pure.vol_span hkk (show 0 ≤ x by omega) (show x ≤ 8 * ((len : Int) - 1) by have := HSP.out; omega)
      obtain ⟨v2, v3⟩ := Pure.vol_span hkk (show 0 ≤ y by omega) (show y ≤ 8 * ((len : Int) - 1) by have := HSP.out; omega)
      clear hs hkk
      obtain ⟨p, hp⟩ : ∃ p, (Pure.vol F x + 7) / 8 = p := ⟨_, rfl⟩
      obtain ⟨q, hq⟩ : ∃ q, Pure.vol F y / 8 = q := ⟨_, rfl⟩
      have HP := Lib.hid hp
      have HQ := Lib.hid hq
      clear hp hq v0 v1 v2 v3
      go_wp2_with fail
      refine (says_any a len cap F lk ft x y HKK.out HSP.out.1 HSP.out.2.1 HSP.out.2.2 _ HN3.out).mono ?_
      rintro e W4 ⟨rfl, hb⟩
      clear t0 t1 t2 s0 s1 r0 fr0 r1 fr1
      rw [HP.out, HQ.out]
      have HX4 : Hid (W4.heap[w.heap.size]? = some (tankB a len cap lk ft) ∧ W4.heap[w.heap.size + 1]? = some (spanB x y) ∧ W4.heap[w.heap.size + 1 + 1]? = some (.cells #[.int .i64 0, .int .i64 0] 26)) := Lib.hid ⟨heap_lft HX3.out.1 hb, heap_lft HX3.out.2.1 hb, heap_lft HX3.out.2.2 hb⟩
      have HN4 := Lib.hid (HN3.out.below hb)
      have HB4 := Lib.hid (below_thn HB3.out hb)
      clear hb
      have t0 := heap_cell HX4.out.1 (j := 0) rfl
      have t1 := heap_cell HX4.out.1 (j := 1) rfl
      have t2 := heap_cell HX4.out.1 (j := 2) rfl
      have s0 := heap_cell HX4.out.2.1 (j := 0) rfl
      have s1 := heap_cell HX4.out.2.1 (j := 1) rfl
      have r0 := heap_cell HX4.out.2.2 (j := 0) rfl
      have fr0 := heap_frozen HX4.out.2.2 0
      have r1 := heap_cell HX4.out.2.2 (j := 1) rfl
      have fr1 := heap_frozen HX4.out.2.2 1
      go_wp2_with fail
      refine (isSpan_any p q _).mono ?_
      rintro e W5 ⟨rfl, hw5⟩
      have hb : Below W4.heap.size W4 W5 := by rw [hw5]; exact (below_new W4 _).alloc (by simp) _
      have HY : Hid (W5.heap[W4.heap.size]? = some (spanB p q)) := by rw [hw5]; exact Lib.hid (heap_up (heap_top _ _ rfl) _)
      clear hw5
      clear t0 t1 t2 s0 s1 r0 fr0 r1 fr1
      have HX5 : Hid (W5.heap[w.heap.size]? = some (tankB a len cap lk ft) ∧ W5.heap[w.heap.size + 1]? = some (spanB x y) ∧ W5.heap[w.heap.size + 1 + 1]? = some (.cells #[.int .i64 0, .int .i64 0] 26)) := Lib.hid ⟨heap_lft HX4.out.1 hb, heap_lft HX4.out.2.1 hb, heap_lft HX4.out.2.2 hb⟩
      have HN5 := Lib.hid (HN4.out.below hb)
      have HB5 := Lib.hid (below_thn HB4.out hb)
      clear hb
      have t0 := heap_cell HX5.out.1 (j := 0) rfl
      have t1 := heap_cell HX5.out.1 (j := 1) rfl
      have t2 := heap_cell HX5.out.1 (j := 2) rfl
      have s0 := heap_cell HX5.out.2.1 (j := 0) rfl
      have s1 := heap_cell HX5.out.2.1 (j := 1) rfl
      have r0 := heap_cell HX5.out.2.2 (j := 0) rfl
      have fr0 := heap_frozen HX5.out.2.2 0
      have r1 := heap_cell HX5.out.2.2 (j := 1) rfl
      have fr1 := heap_frozen HX5.out.2.2 1
      have p0 := heap_cell HY.out (j := 0) rfl
      have p1 := heap_cell HY.out (j := 1) rfl
      by_cases hpq : p ≤ q
      · have HPQ := Lib.hid hpq
        have hd : decide (p ≤ q) = true := decide_eq_true hpq
        try rw [hd]
        go_wp2_with fail
        refine bodyPost_ret (v := .tuple #[.agg #[.int .i64 p, .int .i64 q], .int .i64 0]) (by first | (simp [results, Try.results10, go_sem, r0, r1]; done) | (simp [results, Try.results10, go_sem, Pure.err_false, r0, r1]; done)) rfl ⟨by rw [HP.out, HQ.out, decide_eq_true HPQ.out]; rfl, ?_⟩
        exact ((HB5.out.setCell (p := ⟨w.heap.size + 1 + 1, 0, none⟩) (by first | (simp; done) | (simp; omega)) _).setCell (p := ⟨w.heap.size + 1 + 1, 1, none⟩) (by first | (simp; done) | (simp; omega)) _)
      · have HPQ := Lib.hid hpq
        have hd : decide (p ≤ q) = false := decide_eq_false hpq
        try rw [hd]
        go_wp2_with fail
        refine bodyPost_ret (v := .tuple #[.agg #[.int .i64 0, .int .i64 0], .int .i64 6]) (by first | (simp [results, Try.results10, go_sem, r0, r1]; done) | (simp [results, Try.results10, go_sem, Pure.err_false, r0, r1]; done)) rfl ⟨by rw [HP.out, HQ.out, decide_eq_false (show ¬ p ≤ q by have := HPQ.out; omega)]; rfl, ?_⟩
        exact ((HB5.out.setCell (p := ⟨w.heap.size + 1 + 1, 0, none⟩) (by first | (simp; done) | (simp; omega)) _).setCell (p := ⟨w.heap.size + 1 + 1, 1, none⟩) (by first | (simp; done) | (simp; omega)) _)

set_option maxHeartbeats 4000000 in
set_option maxRecDepth 100000 in
theorem rRange_top (a : Option Addr) (len cap : Nat) (F : Nat → Int) (lk ft x y : Int) (hl : len ≤ 40) (w : World) (h : NumsAt w a len F) :
    Calls Try.prog 11 #[tankV a len cap lk ft, spanV x y] w fun ee w' => ee = .returned (Pure.resV (Pure.code3 (Pure.okTank len F lk ft) (Pure.okSpan (8 * ((len : Int) - 1)) x y) (decide ((Pure.vol F x + 7) / 8 ≤ Pure.vol F y / 8)) 30 2 6) ((Pure.vol F x + 7) / 8) (Pure.vol F y / 8)) ∧ Below w.heap.size w w' := by
  have HN := Lib.hid h
  clear h
  obtain ⟨ok, hok⟩ : ∃ ok, Pure.okTank len F lk ft = ok := ⟨_, rfl⟩
  obtain ⟨hh, hhh⟩ : ∃ hh, 8 * ((len : Int) - 1) = hh := ⟨_, rfl⟩
  obtain ⟨rs, hrs⟩ : ∃ r, Pure.okSpan hh x y = r := ⟨_, rfl⟩
  rw [hok, hhh, hrs]
  have HOK := Lib.hid hok
  have HHH := Lib.hid hhh
  have HRS := Lib.hid hrs
  clear hok hhh hrs
  go_enter Try.func11, Try.ntmps11
  go_wp2_with fail
  obtain ⟨W1, hW1⟩ : ∃ W, (((w.alloc (tankB a len cap lk ft)).alloc (spanB x y)).alloc (.cells #[.int .i64 0, .int .i64 0] 26)) = W := ⟨_, rfl⟩
  have HB1 : Hid (Below w.heap.size w W1) := Lib.hid (by rw [← hW1]; exact ((((Below.refl _ _).alloc (Nat.le_refl _) _).alloc (by simp <;> omega) _).alloc (by simp <;> omega) _))
  have HX1 : Hid (W1.heap[w.heap.size]? = some (tankB a len cap lk ft) ∧ W1.heap[w.heap.size + 1]? = some (spanB x y) ∧ W1.heap[w.heap.size + 1 + 1]? = some (.cells #[.int .i64 0, .int .i64 0] 26)) := Lib.hid (by rw [← hW1]; exact ⟨heap_up (heap_up (heap_top _ _ rfl) _) _, heap_up (heap_top _ _ (by simp)) _, heap_top _ _ (by simp)⟩)
  have HN1 : Hid (NumsAt W1 a len F) := Lib.hid (HN.out.below HB1.out)
  rw [hW1]
  clear hW1
  refine (rTank_any a len cap F lk ft hl _ HN1.out).mono ?_
  rintro e W2 ⟨rfl, hb⟩
  have HX2 : Hid (W2.heap[w.heap.size]? = some (tankB a len cap lk ft) ∧ W2.heap[w.heap.size + 1]? = some (spanB x y) ∧ W2.heap[w.heap.size + 1 + 1]? = some (.cells #[.int .i64 0, .int .i64 0] 26)) := Lib.hid ⟨heap_lft HX1.out.1 hb, heap_lft HX1.out.2.1 hb, heap_lft HX1.out.2.2 hb⟩
  have HN2 := Lib.hid (HN1.out.below hb)
  have HB2 := Lib.hid (below_thn HB1.out hb)
  clear hb
  have t0 := heap_cell HX2.out.1 (j := 0) rfl
  have t1 := heap_cell HX2.out.1 (j := 1) rfl
  have t2 := heap_cell HX2.out.1 (j := 2) rfl
  have s0 := heap_cell HX2.out.2.1 (j := 0) rfl
  have s1 := heap_cell HX2.out.2.1 (j := 1) rfl
  have r0 := heap_cell HX2.out.2.2 (j := 0) rfl
  have fr0 := heap_frozen HX2.out.2.2 0
  have r1 := heap_cell HX2.out.2.2 (j := 1) rfl
  have fr1 := heap_frozen HX2.out.2.2 1
  rw [HOK.out]
  cases ok with
  | false =>
    go_wp2_with fail
    refine bodyPost_ret (v := .tuple #[.agg #[.int .i64 0, .int .i64 0], .int .i64 30]) (by first | (simp [results, Try.results11, go_sem, r0, r1]; done) | (simp [results, Try.results11, go_sem, Pure.err_false, r0, r1]; done)) rfl ⟨rfl, ?_⟩
    exact ((HB2.out.setCell (p := ⟨w.heap.size + 1 + 1, 0, none⟩) (by first | (simp; done) | (simp; omega)) _).setCell (p := ⟨w.heap.size + 1 + 1, 1, none⟩) (by first | (simp; done) | (simp; omega)) _)
  | true =>
    go_wp2_with fail
    have x0 := among_below t0
    have x1 := among_below t1
    have x2 := among_below t2
    have z0 := among_below s0
    have z1 := among_below s1
    have HC1 : Hid (∀ xq : Among (Below W2.heap.size W2), Calls Try.prog 21 #[tankV a len cap lk ft] xq.val fun e w' => e = .returned (.int .i64 hh) ∧ ∃ y : Among (Below W2.heap.size W2), w' = y.val) := Lib.hid (fun xq => calls_class ((rHeightB a len cap lk ft hl HHH.out xq.val).mono fun e w' h => ⟨h.1, xq.ok.trans (h.2.mono xq.ok.size)⟩))
    have HC2 : Hid (∀ xq : Among (Below W2.heap.size W2), Calls Try.prog 30 #[spanV x y, .int .i64 hh] xq.val fun e w' => e = .returned (.bool rs) ∧ ∃ y : Among (Below W2.heap.size W2), w' = y.val) := Lib.hid (fun xq => calls_class ((spannedE hh x y HRS.out xq.val).mono fun e w' h => ⟨h.1, xq.ok.trans (h.2.mono xq.ok.size)⟩))
    have HSt : Hid (Below W2.heap.size W2 W2.drew) := Lib.hid (Below.refl _ _).drew
    have hne : Nonempty (Among (Below W2.heap.size W2)) := ⟨⟨_, HSt.out⟩⟩
    clear t0 t1 t2 s0 s1 r0 fr0 r1 fr1
    refine wp_region_class (Below W2.heap.size W2) (by kernel_rfl) (by kernel_rfl) HSt.out ?_
    repeat (go_big_quiet_step ((first | (go_at_call 21; with_reducible exact HC1.out _) | (go_at_call 30; with_reducible exact HC2.out _))))
    refine wpQuiet_nil ?_
    intro W3 hx
    have hb := among_out hx
    clear hx hne x0 x1 x2 z0 z1 HC1 HC2
    have HX3 : Hid (W3.heap[w.heap.size]? = some (tankB a len cap lk ft) ∧ W3.heap[w.heap.size + 1]? = some (spanB x y) ∧ W3.heap[w.heap.size + 1 + 1]? = some (.cells #[.int .i64 0, .int .i64 0] 26)) := Lib.hid ⟨heap_lft HX2.out.1 hb, heap_lft HX2.out.2.1 hb, heap_lft HX2.out.2.2 hb⟩
    have HN3 := Lib.hid (HN2.out.below hb)
    have HB3 := Lib.hid (below_thn HB2.out hb)
    clear hb
    have t0 := heap_cell HX3.out.1 (j := 0) rfl
    have t1 := heap_cell HX3.out.1 (j := 1) rfl
    have t2 := heap_cell HX3.out.1 (j := 2) rfl
    have s0 := heap_cell HX3.out.2.1 (j := 0) rfl
    have s1 := heap_cell HX3.out.2.1 (j := 1) rfl
    have r0 := heap_cell HX3.out.2.2 (j := 0) rfl
    have fr0 := heap_frozen HX3.out.2.2 0
    have r1 := heap_cell HX3.out.2.2 (j := 1) rfl
    have fr1 := heap_frozen HX3.out.2.2 1
    cases rs with
    | false =>
      go_wp2_with fail
      refine bodyPost_ret (v := .tuple #[.agg #[.int .i64 0, .int .i64 0], .int .i64 2]) (by first | (simp [results, Try.results11, go_sem, r0, r1]; done) | (simp [results, Try.results11, go_sem, Pure.err_false, r0, r1]; done)) rfl ⟨rfl, ?_⟩
      exact ((HB3.out.setCell (p := ⟨w.heap.size + 1 + 1, 0, none⟩) (by first | (simp; done) | (simp; omega)) _).setCell (p := ⟨w.heap.size + 1 + 1, 1, none⟩) (by first | (simp; done) | (simp; omega)) _)
    | true =>
      have hs := HRS.out
      unfold Pure.okSpan at hs
      simp only [decide_eq_true_eq] at hs
      have HSP : Hid (0 ≤ x ∧ x ≤ y ∧ y ≤ 8 * ((len : Int) - 1)) := Lib.hid (by have := HHH.out; omega)
      have hkk := Pure.okTank_iff.1 HOK.out
      have HKK := Lib.hid hkk
      obtain ⟨v0, v1⟩ := Pure.vol_span hkk (show 0 ≤ x by omega) (show x ≤ 8 * ((len : Int) - 1) by have := HSP.out; omega)
      obtain ⟨v2, v3⟩ := Pure.vol_span hkk (show 0 ≤ y by omega) (show y ≤ 8 * ((len : Int) - 1) by have := HSP.out; omega)
      clear hs hkk
      obtain ⟨p, hp⟩ : ∃ p, (Pure.vol F x + 7) / 8 = p := ⟨_, rfl⟩
      obtain ⟨q, hq⟩ : ∃ q, Pure.vol F y / 8 = q := ⟨_, rfl⟩
      have HP := Lib.hid hp
      have HQ := Lib.hid hq
      clear hp hq v0 v1 v2 v3
      go_wp2_with fail
      refine (dipped_any a len cap F lk ft x y HKK.out HSP.out.1 HSP.out.2.1 HSP.out.2.2 _ HN3.out).mono ?_
      rintro e W4 ⟨rfl, hb⟩
      clear t0 t1 t2 s0 s1 r0 fr0 r1 fr1
      rw [HP.out, HQ.out]
      have HX4 : Hid (W4.heap[w.heap.size]? = some (tankB a len cap lk ft) ∧ W4.heap[w.heap.size + 1]? = some (spanB x y) ∧ W4.heap[w.heap.size + 1 + 1]? = some (.cells #[.int .i64 0, .int .i64 0] 26)) := Lib.hid ⟨heap_lft HX3.out.1 hb, heap_lft HX3.out.2.1 hb, heap_lft HX3.out.2.2 hb⟩
      have HN4 := Lib.hid (HN3.out.below hb)
      have HB4 := Lib.hid (below_thn HB3.out hb)
      clear hb
      have t0 := heap_cell HX4.out.1 (j := 0) rfl
      have t1 := heap_cell HX4.out.1 (j := 1) rfl
      have t2 := heap_cell HX4.out.1 (j := 2) rfl
      have s0 := heap_cell HX4.out.2.1 (j := 0) rfl
      have s1 := heap_cell HX4.out.2.1 (j := 1) rfl
      have r0 := heap_cell HX4.out.2.2 (j := 0) rfl
      have fr0 := heap_frozen HX4.out.2.2 0
      have r1 := heap_cell HX4.out.2.2 (j := 1) rfl
      have fr1 := heap_frozen HX4.out.2.2 1
      go_upto_region 6 with fail
      obtain ⟨W5, hw5⟩ : ∃ W, W4.alloc (spanB p q) = W := ⟨_, rfl⟩
      have hb : Below W4.heap.size W4 W5 := by rw [← hw5]; exact below_new _ _
      have HY : Hid (W5.heap[W4.heap.size]? = some (spanB p q)) := by rw [← hw5]; exact Lib.hid (heap_top _ _ rfl)
      rw [hw5]
      clear hw5
      clear t0 t1 t2 s0 s1 r0 fr0 r1 fr1
      have HX5 : Hid (W5.heap[w.heap.size]? = some (tankB a len cap lk ft) ∧ W5.heap[w.heap.size + 1]? = some (spanB x y) ∧ W5.heap[w.heap.size + 1 + 1]? = some (.cells #[.int .i64 0, .int .i64 0] 26)) := Lib.hid ⟨heap_lft HX4.out.1 hb, heap_lft HX4.out.2.1 hb, heap_lft HX4.out.2.2 hb⟩
      have HN5 := Lib.hid (HN4.out.below hb)
      have HB5 := Lib.hid (below_thn HB4.out hb)
      clear hb
      have t0 := heap_cell HX5.out.1 (j := 0) rfl
      have t1 := heap_cell HX5.out.1 (j := 1) rfl
      have t2 := heap_cell HX5.out.1 (j := 2) rfl
      have s0 := heap_cell HX5.out.2.1 (j := 0) rfl
      have s1 := heap_cell HX5.out.2.1 (j := 1) rfl
      have r0 := heap_cell HX5.out.2.2 (j := 0) rfl
      have fr0 := heap_frozen HX5.out.2.2 0
      have r1 := heap_cell HX5.out.2.2 (j := 1) rfl
      have fr1 := heap_frozen HX5.out.2.2 1
      have p0 := heap_cell HY.out (j := 0) rfl
      have p1 := heap_cell HY.out (j := 1) rfl
      by_cases hpq : p ≤ q
      · have HPQ := Lib.hid hpq
        go_wp2_with fail
        refine bodyPost_ret (v := .tuple #[.agg #[.int .i64 p, .int .i64 q], .int .i64 0]) (by first | (simp [results, Try.results11, go_sem, r0, r1]; done) | (simp [results, Try.results11, go_sem, Pure.err_false, r0, r1]; done)) rfl ⟨by rw [HP.out, HQ.out, decide_eq_true HPQ.out]; rfl, ?_⟩
        exact ((HB5.out.setCell (p := ⟨w.heap.size + 1 + 1, 0, none⟩) (by first | (simp; done) | (simp; omega)) _).setCell (p := ⟨w.heap.size + 1 + 1, 1, none⟩) (by first | (simp; done) | (simp; omega)) _)
      · have HPQ := Lib.hid hpq
        have hqp : q < p := by omega
        go_wp2_with fail
        refine bodyPost_ret (v := .tuple #[.agg #[.int .i64 0, .int .i64 0], .int .i64 6]) (by first | (simp [results, Try.results11, go_sem, r0, r1]; done) | (simp [results, Try.results11, go_sem, Pure.err_false, r0, r1]; done)) rfl ⟨by rw [HP.out, HQ.out, decide_eq_false (show ¬ p ≤ q by have := HPQ.out; omega)]; rfl, ?_⟩
        exact ((HB5.out.setCell (p := ⟨w.heap.size + 1 + 1, 0, none⟩) (by first | (simp; done) | (simp; omega)) _).setCell (p := ⟨w.heap.size + 1 + 1, 1, none⟩) (by first | (simp; done) | (simp; omega)) _)

end Go.Proofs.Ytpgpebgimmaobaa
