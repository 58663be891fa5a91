/-
  TankTables: the walk of the law.
-/
import Derived.Test.YtpgpebgimmaobaaTTwin
namespace Go.Proofs.Ytpgpebgimmaobaa
open Go.RowKit

theorem resV_form (c x y : Int) : ∃ p q k : Int, Pure.resV c x y = .tuple #[.agg #[.int .i64 p, .int .i64 q], .int .i64 k] := by
  unfold Pure.resV
  split
  · exact ⟨_, _, _, rfl⟩
  · exact ⟨_, _, _, rfl⟩
/-- What two functions answer alike of a tank. -/
abbrev AlikeT (f g : Nat) (len : Nat) (F : Nat → Int) (lk ft : Int) (arg v : Value) : Prop :=
  (∀ a cap u, NumsAt u a len F → Calls Try.prog f #[tankV a len cap lk ft, arg] u fun e u' => e = .returned v ∧ Below u.heap.size u u') ∧
  (∀ a cap u, NumsAt u a len F → Calls Try.prog g #[tankV a len cap lk ft, arg] u fun e u' => e = .returned v ∧ Below u.heap.size u u')
theorem alike_volume (len : Nat) (F : Nat → Int) (lk ft e : Int) (hl : len ≤ 40) : ∃ p q k : Int, AlikeT 6 7 len F lk ft (.int .i64 e) (.tuple #[.agg #[.int .i64 p, .int .i64 q], .int .i64 k]) := by
  obtain ⟨p, q, k, h⟩ := resV_form _ _ _
  refine ⟨p, q, k, fun a cap u hn => ?_, fun a cap u hn => ?_⟩ <;> rw [← h]
  · exact volume_top a len cap F lk ft e hl u hn
  · exact rVolume_top a len cap F lk ft e hl u hn
theorem alike_eighth (len : Nat) (F : Nat → Int) (lk ft e : Int) (hl : len ≤ 40) : ∃ p q k : Int, AlikeT 8 9 len F lk ft (.int .i64 e) (.tuple #[.agg #[.int .i64 p, .int .i64 q], .int .i64 k]) := by
  obtain ⟨p, q, k, h⟩ := resV_form _ _ _
  refine ⟨p, q, k, fun a cap u hn => ?_, fun a cap u hn => ?_⟩ <;> rw [← h]
  · exact eighth_top a len cap F lk ft e hl u hn
  · exact rEighth_top a len cap F lk ft e hl u hn
theorem alike_range (len : Nat) (F : Nat → Int) (lk ft x y : Int) (hl : len ≤ 40) : ∃ p q k : Int, AlikeT 10 11 len F lk ft (spanV x y) (.tuple #[.agg #[.int .i64 p, .int .i64 q], .int .i64 k]) := by
  obtain ⟨p, q, k, h⟩ := resV_form _ _ _
  refine ⟨p, q, k, fun a cap u hn => ?_, fun a cap u hn => ?_⟩ <;> rw [← h]
  · exact range_top a len cap F lk ft x y hl u hn
  · exact rRange_top a len cap F lk ft x y hl u hn
set_option maxHeartbeats 4000000 in
set_option maxRecDepth 100000 in
theorem tables_walk (a : Option Addr) (len cap : Nat) (F : Nat → Int) (lk ft e p x y : Int) (hl : len ≤ 9223372036854775807) (w : World) (h : NumsAt w a len F) :
    Calls Try.prog 3 #[tankV a len cap lk ft, .int .i64 e, .int .i64 p, spanV x y] w fun e w' => e = .returned (.bool true) ∧ Below w.heap.size w w' := by
  have HN := Lib.hid h
  clear h
  go_enter Try.func3, Try.ntmps3
  go_wp2_with fail
  obtain ⟨W1, hW1⟩ : ∃ W, ((w.alloc (tankB a len cap lk ft)).alloc (spanB x y)) = W := ⟨_, rfl⟩
  have HB1 : Hid (Below w.heap.size w W1) := Lib.hid (by rw [← hW1]; exact (((Below.refl _ _).alloc (Nat.le_refl _) _).alloc (by simp <;> omega) _))
  have HX1 : Hid (W1.heap[w.heap.size]? = some (tankB a len cap lk ft) ∧ W1.heap[w.heap.size + 1]? = some (spanB x y)) := Lib.hid (by rw [← hW1]; exact ⟨heap_up (heap_top _ _ rfl) _, heap_top _ _ (by simp)⟩)
  have HN1 : Hid (NumsAt W1 a len F) := Lib.hid (HN.out.below HB1.out)
  rw [hW1]
  clear hW1
  have HHL := Lib.hid hl
  refine (great_any a len cap lk ft _).mono ?_
  rintro e' W2 ⟨rfl, hw⟩
  have hb : Below W1.heap.size W1 W2 := by rw [hw]; exact below_new _ _
  clear hw
  have HX2 : Hid (W2.heap[w.heap.size]? = some (tankB a len cap lk ft) ∧ W2.heap[w.heap.size + 1]? = some (spanB x y)) := Lib.hid ⟨heap_lft HX1.out.1 hb, heap_lft HX1.out.2 hb⟩
  have HN2 := Lib.hid (HN1.out.below hb)
  have HB2 := Lib.hid (below_thn HB1.out hb)
  clear hb
  have t0 := heap_cell HX2.out.1 (j := 0) rfl
  have t1 := heap_cell HX2.out.1 (j := 1) rfl
  have t2 := heap_cell HX2.out.1 (j := 2) rfl
  have s0 := heap_cell HX2.out.2 (j := 0) rfl
  have s1 := heap_cell HX2.out.2 (j := 1) rfl
  by_cases hg : len ≤ 40
  · have HG := Lib.hid hg
    have hd : decide ((40 : Int) < len) = false := decide_eq_false (by omega)
    rw [hd]
    obtain ⟨p1, q1, k1, ha1, ha2⟩ := alike_volume len F lk ft e hg
    obtain ⟨p2, q2, k2, hb1, hb2⟩ := alike_eighth len F lk ft p hg
    obtain ⟨p3, q3, k3, hc1, hc2⟩ := alike_range len F lk ft x y hg
    have HA1 := Lib.hid ha1
    have HA2 := Lib.hid ha2
    have HE1 := Lib.hid hb1
    have HE2 := Lib.hid hb2
    have HC1 := Lib.hid hc1
    have HC2 := Lib.hid hc2
    clear ha1 ha2 hb1 hb2 hc1 hc2 hg hd
    go_wp2_with fail
    refine (twin_any a len cap F lk ft HG.out _ HN2.out).mono ?_
    rintro e' v3 ⟨a3, cap3, rfl, hn3, hb⟩
    have hb2 := hb.alloc hb.size (tankB a3 len cap3 lk ft)
    replace t0 := below_cell hb2 t0
    replace t1 := below_cell hb2 t1
    replace t2 := below_cell hb2 t2
    replace s0 := below_cell hb2 s0
    replace s1 := below_cell hb2 s1
    have o0 := heap_cell (heap_top v3 (tankB a3 len cap3 lk ft) rfl) (j := 0) rfl
    have o1 := heap_cell (heap_top v3 (tankB a3 len cap3 lk ft) rfl) (j := 1) rfl
    have o2 := heap_cell (heap_top v3 (tankB a3 len cap3 lk ft) rfl) (j := 2) rfl
    have HN3 := Lib.hid (HN2.out.below hb2)
    have HO3 := Lib.hid (hn3.alloc (tankB a3 len cap3 lk ft))
    have HB3 := Lib.hid (below_thn HB2.out hb2)
    have HT0 : Hid (Below w.heap.size w v3) := Lib.hid (below_thn HB2.out hb)
    
    obtain ⟨W3, hW⟩ : ∃ W, v3.alloc (tankB a3 len cap3 lk ft) = W := ⟨_, rfl⟩
    rw [hW] at t0 t1 t2 s0 s1 o0 o1 o2 HN3 HO3 HB3
    clear hb hb2 hn3
    go_wp2_with fail
    clear hW
    refine (HA1.out _ _ _ HO3.out).mono ?_
    rintro e' v4 ⟨rfl, hb⟩
    have hb2 := hb.alloc hb.size (.cells #[.int .i64 p1, .int .i64 q1] 30)
    replace t0 := below_cell hb2 t0
    replace t1 := below_cell hb2 t1
    replace t2 := below_cell hb2 t2
    replace s0 := below_cell hb2 s0
    replace s1 := below_cell hb2 s1
    replace o0 := below_cell hb2 o0
    replace o1 := below_cell hb2 o1
    replace o2 := below_cell hb2 o2
    have r40 := heap_cell (heap_top v4 (.cells #[.int .i64 p1, .int .i64 q1] 30) rfl) (j := 0) rfl
    have r41 := heap_cell (heap_top v4 (.cells #[.int .i64 p1, .int .i64 q1] 30) rfl) (j := 1) rfl
    have HN4 := Lib.hid (HN3.out.below hb2)
    have HO4 := Lib.hid (HO3.out.below hb2)
    have HB4 := Lib.hid (below_thn HB3.out hb2)
    obtain ⟨W4, hW⟩ : ∃ W, v4.alloc (.cells #[.int .i64 p1, .int .i64 q1] 30) = W := ⟨_, rfl⟩
    rw [hW] at t0 t1 t2 s0 s1 o0 o1 o2 r40 r41 HN4 HO4 HB4
    clear hb hb2
    go_wp2_with fail
    clear hW
    refine (HA2.out _ _ _ HN4.out).mono ?_
    rintro e' v5 ⟨rfl, hb⟩
    have hb2 := hb.alloc hb.size (.cells #[.int .i64 p1, .int .i64 q1] 30)
    replace t0 := below_cell hb2 t0
    replace t1 := below_cell hb2 t1
    replace t2 := below_cell hb2 t2
    replace s0 := below_cell hb2 s0
    replace s1 := below_cell hb2 s1
    replace o0 := below_cell hb2 o0
    replace o1 := below_cell hb2 o1
    replace o2 := below_cell hb2 o2
    replace r40 := below_cell hb2 r40
    replace r41 := below_cell hb2 r41
    have r50 := heap_cell (heap_top v5 (.cells #[.int .i64 p1, .int .i64 q1] 30) rfl) (j := 0) rfl
    have r51 := heap_cell (heap_top v5 (.cells #[.int .i64 p1, .int .i64 q1] 30) rfl) (j := 1) rfl
    have HN5 := Lib.hid (HN4.out.below hb2)
    have HO5 := Lib.hid (HO4.out.below hb2)
    have HB5 := Lib.hid (below_thn HB4.out hb2)
    obtain ⟨W5, hW⟩ : ∃ W, v5.alloc (.cells #[.int .i64 p1, .int .i64 q1] 30) = W := ⟨_, rfl⟩
    rw [hW] at t0 t1 t2 s0 s1 o0 o1 o2 r40 r41 r50 r51 HN5 HO5 HB5
    clear hb hb2
    go_wp2_with fail
    clear hW
    refine (HE1.out _ _ _ HO5.out).mono ?_
    rintro e' v6 ⟨rfl, hb⟩
    have hb2 := hb.alloc hb.size (.cells #[.int .i64 p2, .int .i64 q2] 30)
    replace t0 := below_cell hb2 t0
    replace t1 := below_cell hb2 t1
    replace t2 := below_cell hb2 t2
    replace s0 := below_cell hb2 s0
    replace s1 := below_cell hb2 s1
    replace o0 := below_cell hb2 o0
    replace o1 := below_cell hb2 o1
    replace o2 := below_cell hb2 o2
    replace r40 := below_cell hb2 r40
    replace r41 := below_cell hb2 r41
    replace r50 := below_cell hb2 r50
    replace r51 := below_cell hb2 r51
    have r60 := heap_cell (heap_top v6 (.cells #[.int .i64 p2, .int .i64 q2] 30) rfl) (j := 0) rfl
    have r61 := heap_cell (heap_top v6 (.cells #[.int .i64 p2, .int .i64 q2] 30) rfl) (j := 1) rfl
    have HN6 := Lib.hid (HN5.out.below hb2)
    have HO6 := Lib.hid (HO5.out.below hb2)
    have HB6 := Lib.hid (below_thn HB5.out hb2)
    obtain ⟨W6, hW⟩ : ∃ W, v6.alloc (.cells #[.int .i64 p2, .int .i64 q2] 30) = W := ⟨_, rfl⟩
    rw [hW] at t0 t1 t2 s0 s1 o0 o1 o2 r40 r41 r50 r51 r60 r61 HN6 HO6 HB6
    clear hb hb2
    go_wp2_with fail
    clear hW
    refine (HE2.out _ _ _ HN6.out).mono ?_
    rintro e' v7 ⟨rfl, hb⟩
    have hb2 := hb.alloc hb.size (.cells #[.int .i64 p2, .int .i64 q2] 30)
    replace t0 := below_cell hb2 t0
    replace t1 := below_cell hb2 t1
    replace t2 := below_cell hb2 t2
    replace s0 := below_cell hb2 s0
    replace s1 := below_cell hb2 s1
    replace o0 := below_cell hb2 o0
    replace o1 := below_cell hb2 o1
    replace o2 := below_cell hb2 o2
    replace r40 := below_cell hb2 r40
    replace r41 := below_cell hb2 r41
    replace r50 := below_cell hb2 r50
    replace r51 := below_cell hb2 r51
    replace r60 := below_cell hb2 r60
    replace r61 := below_cell hb2 r61
    have r70 := heap_cell (heap_top v7 (.cells #[.int .i64 p2, .int .i64 q2] 30) rfl) (j := 0) rfl
    have r71 := heap_cell (heap_top v7 (.cells #[.int .i64 p2, .int .i64 q2] 30) rfl) (j := 1) rfl
    have HN7 := Lib.hid (HN6.out.below hb2)
    have HO7 := Lib.hid (HO6.out.below hb2)
    have HB7 := Lib.hid (below_thn HB6.out hb2)
    obtain ⟨W7, hW⟩ : ∃ W, v7.alloc (.cells #[.int .i64 p2, .int .i64 q2] 30) = W := ⟨_, rfl⟩
    rw [hW] at t0 t1 t2 s0 s1 o0 o1 o2 r40 r41 r50 r51 r60 r61 r70 r71 HN7 HO7 HB7
    clear hb hb2
    go_wp2_with fail
    clear hW
    refine (HC1.out _ _ _ HO7.out).mono ?_
    rintro e' v8 ⟨rfl, hb⟩
    have hb2 := hb.alloc hb.size (.cells #[.int .i64 p3, .int .i64 q3] 26)
    replace t0 := below_cell hb2 t0
    replace t1 := below_cell hb2 t1
    replace t2 := below_cell hb2 t2
    replace s0 := below_cell hb2 s0
    replace s1 := below_cell hb2 s1
    replace o0 := below_cell hb2 o0
    replace o1 := below_cell hb2 o1
    replace o2 := below_cell hb2 o2
    replace r40 := below_cell hb2 r40
    replace r41 := below_cell hb2 r41
    replace r50 := below_cell hb2 r50
    replace r51 := below_cell hb2 r51
    replace r60 := below_cell hb2 r60
    replace r61 := below_cell hb2 r61
    replace r70 := below_cell hb2 r70
    replace r71 := below_cell hb2 r71
    have r80 := heap_cell (heap_top v8 (.cells #[.int .i64 p3, .int .i64 q3] 26) rfl) (j := 0) rfl
    have r81 := heap_cell (heap_top v8 (.cells #[.int .i64 p3, .int .i64 q3] 26) rfl) (j := 1) rfl
    have HN8 := Lib.hid (HN7.out.below hb2)
    have HO8 := Lib.hid (HO7.out.below hb2)
    have HB8 := Lib.hid (below_thn HB7.out hb2)
    obtain ⟨W8, hW⟩ : ∃ W, v8.alloc (.cells #[.int .i64 p3, .int .i64 q3] 26) = W := ⟨_, rfl⟩
    rw [hW] at t0 t1 t2 s0 s1 o0 o1 o2 r40 r41 r50 r51 r60 r61 r70 r71 r80 r81 HN8 HO8 HB8
    clear hb hb2
    go_wp2_with fail
    clear hW
    refine (HC2.out _ _ _ HN8.out).mono ?_
    rintro e' v9 ⟨rfl, hb⟩
    have hb2 := hb.alloc hb.size (.cells #[.int .i64 p3, .int .i64 q3] 26)
    replace t0 := below_cell hb2 t0
    replace t1 := below_cell hb2 t1
    replace t2 := below_cell hb2 t2
    replace s0 := below_cell hb2 s0
    replace s1 := below_cell hb2 s1
    replace o0 := below_cell hb2 o0
    replace o1 := below_cell hb2 o1
    replace o2 := below_cell hb2 o2
    replace r40 := below_cell hb2 r40
    replace r41 := below_cell hb2 r41
    replace r50 := below_cell hb2 r50
    replace r51 := below_cell hb2 r51
    replace r60 := below_cell hb2 r60
    replace r61 := below_cell hb2 r61
    replace r70 := below_cell hb2 r70
    replace r71 := below_cell hb2 r71
    replace r80 := below_cell hb2 r80
    replace r81 := below_cell hb2 r81
    have r90 := heap_cell (heap_top v9 (.cells #[.int .i64 p3, .int .i64 q3] 26) rfl) (j := 0) rfl
    have r91 := heap_cell (heap_top v9 (.cells #[.int .i64 p3, .int .i64 q3] 26) rfl) (j := 1) rfl
    have HN9 := Lib.hid (HN8.out.below hb2)
    have HO9 := Lib.hid (HO8.out.below hb2)
    have HB9 := Lib.hid (below_thn HB8.out hb2)
    obtain ⟨W9, hW⟩ : ∃ W, v9.alloc (.cells #[.int .i64 p3, .int .i64 q3] 26) = W := ⟨_, rfl⟩
    rw [hW] at t0 t1 t2 s0 s1 o0 o1 o2 r40 r41 r50 r51 r60 r61 r70 r71 r80 r81 r90 r91 HN9 HO9 HB9
    clear hb hb2
    go_wp2_with fail
    clear hW
    obtain ⟨kc, hkc⟩ : ∃ k, Pure.err (Pure.okTank len F lk ft) 30 = k := ⟨_, rfl⟩
    have HKC := Lib.hid hkc
    clear hkc
    have HC7 : Hid (∀ xq : Among (Below W9.heap.size W9), Calls Try.prog 12 #[tankV a3 len cap3 lk ft] xq.val fun e w' => e = .returned (.int .i64 kc) ∧ ∃ y : Among (Below W9.heap.size W9), w' = y.val) := Lib.hid (fun xq => calls_class (((check_any a3 len cap3 F lk ft HG.out xq.val (HO9.out.below xq.ok)).mono fun e w' h => (⟨h.1.trans (by rw [HKC.out]), h.2⟩ : e = .returned (.int .i64 kc) ∧ Below xq.val.heap.size xq.val w')).mono fun e w' h => ⟨h.1, xq.ok.trans (h.2.mono xq.ok.size)⟩))
    have HC8 : Hid (∀ xq : Among (Below W9.heap.size W9), Calls Try.prog 13 #[tankV a len cap lk ft] xq.val fun e w' => e = .returned (.int .i64 kc) ∧ ∃ y : Among (Below W9.heap.size W9), w' = y.val) := Lib.hid (fun xq => calls_class (((rCheck_any a len cap F lk ft HG.out xq.val (HN9.out.below xq.ok)).mono fun e w' h => (⟨h.1.trans (by rw [HKC.out]), h.2⟩ : e = .returned (.int .i64 kc) ∧ Below xq.val.heap.size xq.val w')).mono fun e w' h => ⟨h.1, xq.ok.trans (h.2.mono xq.ok.size)⟩))
    have HC9 : Hid (∀ xq : Among (Below W9.heap.size W9), Calls Try.prog 14 #[.slice a3 len cap3, .slice a len cap] xq.val fun e w' => e = .returned (.bool true) ∧ ∃ y : Among (Below W9.heap.size W9), w' = y.val) := Lib.hid (fun xq => calls_class ((sameInts_any a3 a len cap3 cap F (by have := HG.out; omega) xq.val (HO9.out.below xq.ok) (HN9.out.below xq.ok)).mono fun e w' h => ⟨h.1, xq.ok.trans (h.2.mono xq.ok.size)⟩))
    have xt0 := among_below t0
    have xt1 := among_below t1
    have xt2 := among_below t2
    have xs0 := among_below s0
    have xs1 := among_below s1
    have xo0 := among_below o0
    have xo1 := among_below o1
    have xo2 := among_below o2
    have xr40 := among_below r40
    have xr41 := among_below r41
    have xr50 := among_below r50
    have xr51 := among_below r51
    have xr60 := among_below r60
    have xr61 := among_below r61
    have xr70 := among_below r70
    have xr71 := among_below r71
    have xr80 := among_below r80
    have xr81 := among_below r81
    have xr90 := among_below r90
    have xr91 := among_below r91
    have HSt : Hid (Below W9.heap.size W9 W9.drew) := Lib.hid (Below.refl _ _).drew
    have hne : Nonempty (Among (Below W9.heap.size W9)) := ⟨⟨_, HSt.out⟩⟩
    clear t0 t1 t2 s0 s1 o0 o1 o2 r40 r41 r50 r51 r60 r61 r70 r71 r80 r81 r90 r91
    refine wp_region_class (Below W9.heap.size W9) (by kernel_rfl) (by kernel_rfl) HSt.out ?_
    repeat (go_big_quiet_step ((first | (go_at_call 12; with_reducible exact HC7.out _) | (go_at_call 13; with_reducible exact HC8.out _) | (go_at_call 14; with_reducible exact HC9.out _))))
    refine wpQuiet_nil ?_
    intro W10 hx
    have HB10 := Lib.hid (below_thn HB9.out (among_out hx))
    clear hx hne HC7 HC8 HC9 xt0 xt1 xt2 xs0 xs1 xo0 xo1 xo2 xr40 xr41 xr50 xr51 xr60 xr61 xr70 xr71 xr80 xr81 xr90 xr91
    go_wp2_with fail
    go_ret
    exact ⟨rfl, HB10.out⟩
  · have hd : decide ((40 : Int) < len) = true := decide_eq_true (by omega)
    rw [hd]
    go_wp2_with fail
    go_ret
    exact ⟨rfl, HB2.out⟩

end Go.Proofs.Ytpgpebgimmaobaa
