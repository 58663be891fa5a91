/-
  The contracts of checkRule, accepts, and of what the sides bear.
-/
import Derived.Test.YtjegkkpdemoldaaGreatDoorFindTop
import Derived.Test.YtjegkkpdemoldaaGreatDoorTail
namespace Go.Proofs.YtjegkkpdemoldaaGreatDoor
open Go.RowKit Go.Shelf

set_option maxHeartbeats 1000000 in
set_option maxRecDepth 100000 in
/-- **checkRule**. -/
theorem checkRule_any (b lo hi o f : Int) (w : World) :
    Calls Tryz.prog 46 #[cargoV b lo hi, .agg #[.int .i64 o, .int .i64 f]] w fun e w' => e = .returned (.int .i64 (Pure.err (Pure.okDraw b o f) 13)) ∧ Below w.heap.size w w' := by
  have hb1 : ∃ r1, (decide (0 ≤ o) && decide (o ≤ b)) = r1 := ⟨_, rfl⟩
  have hb2 : ∃ r2, (decide (0 ≤ f) && decide (f ≤ o)) = r2 := ⟨_, rfl⟩
  obtain ⟨r1, h1⟩ := hb1
  obtain ⟨r2, h2⟩ := hb2
  have HF : Hid (Pure.err (Pure.okDraw b o f) 13 = Pure.err ((r1 && r2)) 13) := by
    subst h1
    subst h2
    refine Lib.hid ?_
    congr 1
    rw [Bool.eq_iff_iff]
    unfold Pure.okDraw
    simp
    omega
  have H1 := Lib.hid h1
  have H2 := Lib.hid h2
  clear h1 h2
  go_enter Tryz.func46, Tryz.ntmps46
  go_wp2_with fail
  refine (within1 0 b o _ 1 _ (cells_top _ _ _ (by simp) 0) r1 H1.out).mono ?_
  rintro e w' ⟨rfl, rfl⟩
  cases r1
  · go_wp2_with fail
    refine (unless_any _ _ _).mono ?_
    rintro e w' ⟨rfl, rfl⟩
    go_wp2_with fail
    go_ret
    refine ⟨ret_int (by rw [HF.out]; rfl), ?_⟩
    repeat (first | exact Below.refl _ _ | refine Below.alloc ?_ (by simp; try omega) _)
  · go_wp2_with fail
    refine (within1 0 o f _ 1 _ (cells_top _ _ _ (by simp) 0) r2 H2.out).mono ?_
    rintro e w' ⟨rfl, rfl⟩
    go_wp2_with fail
    refine (unless_any _ _ _).mono ?_
    rintro e w' ⟨rfl, rfl⟩
    go_wp2_with fail
    go_ret
    refine ⟨ret_int (by rw [HF.out]; rfl), ?_⟩
    repeat (first | exact Below.refl _ _ | refine Below.alloc ?_ (by simp; try omega) _)

set_option maxHeartbeats 2000000 in
set_option maxRecDepth 100000 in
/-- **accepts**. -/
theorem accepts_any {M T C : Nat} (b lo hi d o f : Int) (hb0 : 0 ≤ b) (hb : b ≤ 36) (hd0 : -36 ≤ d) (hd : d ≤ 36) (hbd : b - d ≤ 36) (ho0 : 0 ≤ o) (ho : o ≤ b) (w : World) (hw : Cnt w M T C) :
    Calls Tryz.prog 47 #[holdV b lo hi T C, .agg #[.int .i64 o, .int .i64 f], .int .i64 d] w fun e w' => e = .returned (partV (Pure.few b d o f) (Pure.sets b o)) ∧ Step M w w' := by
  go_enter Tryz.func47, Tryz.ntmps47
  go_wp2_with fail
  obtain ⟨W1, hW1⟩ : ∃ W1, ((w.alloc (.cells #[.int .i64 b, .int .i64 lo, .int .i64 hi, setsV T C] 82)).alloc (.cells #[.int .i64 o, .int .i64 f] 47)).alloc (.cells #[.int .i64 0, .int .i64 0] 31) = W1 := ⟨_, rfl⟩
  have hS1 : Step M w W1 := by rw [← hW1]; exact (((Step.refl hw.memo).alloc _).alloc _).alloc _
  have hr1 : W1.heap[w.heap.size + 1 + 1]? = some (.cells #[.int .i64 0, .int .i64 0] 31) := by rw [← hW1]; exact heap_top _ _ (by simp)
  rw [hW1]
  have HS1 := Lib.hid hS1
  have HR1 := Lib.hid hr1
  have HW := Lib.hid hw
  clear hW1 hS1 hr1 hw
  refine (holdAtMost_any b lo hi d o f hb0 hb hd0 hd hbd ho0 ho _ (HW.out.step HS1.out)).mono ?_
  rintro e w2 ⟨rfl, hs⟩
  have hr2 := hs.heap HR1.out (by have := HW.out.lt; omega)
  have r0 := heap_cell hr2 (j := 0) rfl
  have r1 := heap_cell hr2 (j := 1) rfl
  have f0 := heap_frozen hr2 0
  have f1 := heap_frozen hr2 1
  have HS2 := Lib.hid (HS1.out.trans hs)
  have HWM := Lib.hid HW.out.lt.1
  clear hs hr2
  go_wp2_with fail
  refine bodyPost_ret (v := partV (Pure.few b d o f) (Pure.sets b o)) (by simp [results, Tryz.results47, go_sem, r0, r1]) rfl ⟨rfl, ?_⟩
  exact (HS2.out.setCell (p := ⟨w.heap.size + 1 + 1, 0, none⟩) (by simp; omega) HWM.out _).setCell (p := ⟨w.heap.size + 1 + 1, 1, none⟩) (by simp; omega) HWM.out _

namespace Pure
/-- What the seller bears (p/q: the risk that is asked for), what the buyer bears. -/
def sellerOk (b d o f p q : Int) : Bool := decide ((sets b o - few b d o f) * q ≤ p * sets b o)
def buyerOk (b d o f p q : Int) : Bool := decide (few b d o f * q ≤ p * sets b o)
end Pure

set_option maxHeartbeats 2000000 in
set_option maxRecDepth 100000 in
theorem buyer_any (b d o f p q : Int) (B : Nat) (hb0 : 0 ≤ b) (hb : b ≤ 36) (ho0 : 0 ≤ o) (ho : o ≤ b) (hp0 : 0 ≤ p) (hpq : p ≤ q) (hq0 : 1 ≤ q) (hq : q ≤ 1000) (w : World)
    (e0 : w.heap[B]? = some (.cells #[.int .i64 p, .int .i64 q] 31)) :
    Calls Tryz.prog 82 #[partV (Pure.few b d o f) (Pure.sets b o), .pointer (some ⟨B, 0, none⟩)] w fun e w' => e = .returned (.bool (Pure.buyerOk b d o f p q)) ∧ Below w.heap.size w w' := by
  have few0 : 0 ≤ Pure.few b d o f := Pure.few_nonneg
  have few1 : Pure.few b d o f ≤ 2542620639232 := Pure.few_le hb (by omega)
  have set0 : 0 < Pure.sets b o := Pure.sets_pos ho0 ho
  have set1 : Pure.sets b o ≤ 68719476736 := Pure.sets_le (by omega)
  have ln := Pure.low_num few0 set0
  have ld := Pure.low_den few0 set0
  have m1 : 0 ≤ Pure.few b d o f / Pure.gcd (Pure.few b d o f) (Pure.sets b o) * q := Int.mul_nonneg ln.1 (by omega)
  have m2 : Pure.few b d o f / Pure.gcd (Pure.few b d o f) (Pure.sets b o) * q ≤ 2542620639232 * 1000 := Int.mul_le_mul (by omega) hq (by omega) (by decide)
  have m3 : 0 ≤ p * (Pure.sets b o / Pure.gcd (Pure.few b d o f) (Pure.sets b o)) := Int.mul_nonneg hp0 (by omega)
  have m4 : p * (Pure.sets b o / Pure.gcd (Pure.few b d o f) (Pure.sets b o)) ≤ 1000 * 68719476736 := Int.mul_le_mul (by omega) (by omega) (by omega) (by decide)
  have hr : decide (Pure.few b d o f / Pure.gcd (Pure.few b d o f) (Pure.sets b o) * q ≤ p * (Pure.sets b o / Pure.gcd (Pure.few b d o f) (Pure.sets b o))) = Pure.buyerOk b d o f p q := by
    unfold Pure.buyerOk
    exact decide_eq_decide.2 (Pure.low_le few0 set0)
  have HRE : Hid (∀ W, Calls Tryz.prog 76 #[.agg #[.int .i64 p, .int .i64 q], partV (Pure.few b d o f) (Pure.sets b o)] W fun e w' => e = .returned (.bool (Pure.buyerOk b d o f p q)) ∧ Below W.heap.size W w') :=
    Lib.hid (fun W => reaches_any _ _ _ _ m3 (by omega) m1 (by omega) _ hr W)
  clear few0 few1 set0 set1 ln ld m1 m2 m3 m4 hr
  have hp := heap_up e0 (.cells #[.int .i64 (Pure.few b d o f / Pure.gcd (Pure.few b d o f) (Pure.sets b o)), .int .i64 (Pure.sets b o / Pure.gcd (Pure.few b d o f) (Pure.sets b o))] 31)
  have p0 := heap_cell hp (j := 0) rfl
  have p1 := heap_cell hp (j := 1) rfl
  clear e0 hp
  go_enter Tryz.func82, Tryz.ntmps82
  go_wp2_with fail
  refine (HRE.out _).mono ?_
  rintro e w' ⟨rfl, hb⟩
  have HB := Lib.hid (((Below.refl w.heap.size w).alloc (Nat.le_refl _) _).trans (hb.mono (by simp)))
  clear hb p0 p1
  go_wp2_with fail
  go_ret
  exact ⟨rfl, HB.out⟩

theorem amid_below {W : World} {a : Addr} {v : Value} (h : W.cell? a = some v) (x : Among (Below W.heap.size W)) : x.val.cell? a = some v := below_cell x.ok h

set_option maxHeartbeats 2000000 in
set_option maxRecDepth 100000 in
theorem seller_any (b d o f p q : Int) (B : Nat) (_hb0 : 0 ≤ b) (hb : b ≤ 36) (ho0 : 0 ≤ o) (ho : o ≤ b) (hfs : Pure.few b d o f ≤ Pure.sets b o) (hp0 : 0 ≤ p) (hpq : p ≤ q) (hq0 : 1 ≤ q) (hq : q ≤ 1000) (w : World)
    (e0 : w.heap[B]? = some (.cells #[.int .i64 p, .int .i64 q] 31)) :
    Calls Tryz.prog 81 #[partV (Pure.few b d o f) (Pure.sets b o), .pointer (some ⟨B, 0, none⟩)] w fun e w' => e = .returned (.bool (Pure.sellerOk b d o f p q)) ∧ Below w.heap.size w w' := by
  have few0 : 0 ≤ Pure.few b d o f := Pure.few_nonneg
  have set0 : 0 < Pure.sets b o := Pure.sets_pos ho0 ho
  have set1 : Pure.sets b o ≤ 68719476736 := Pure.sets_le (by omega)
  have ln := Pure.low_num few0 set0
  have ld := Pure.low_den few0 set0
  have lo1 := Pure.low_le_one few0 set0 hfs
  have m1 : 0 ≤ (Pure.sets b o / Pure.gcd (Pure.few b d o f) (Pure.sets b o) - Pure.few b d o f / Pure.gcd (Pure.few b d o f) (Pure.sets b o)) * q := Int.mul_nonneg (by omega) (by omega)
  have m2 : (Pure.sets b o / Pure.gcd (Pure.few b d o f) (Pure.sets b o) - Pure.few b d o f / Pure.gcd (Pure.few b d o f) (Pure.sets b o)) * q ≤ 68719476736 * 1000 := Int.mul_le_mul (by omega) hq (by omega) (by decide)
  have m3 : 0 ≤ p * (Pure.sets b o / Pure.gcd (Pure.few b d o f) (Pure.sets b o)) := Int.mul_nonneg hp0 (by omega)
  have m4 : p * (Pure.sets b o / Pure.gcd (Pure.few b d o f) (Pure.sets b o)) ≤ 1000 * 68719476736 := Int.mul_le_mul (by omega) (by omega) (by omega) (by decide)
  have hr : decide ((Pure.sets b o / Pure.gcd (Pure.few b d o f) (Pure.sets b o) - Pure.few b d o f / Pure.gcd (Pure.few b d o f) (Pure.sets b o)) * q ≤ p * (Pure.sets b o / Pure.gcd (Pure.few b d o f) (Pure.sets b o))) = Pure.sellerOk b d o f p q := by
    unfold Pure.sellerOk
    exact decide_eq_decide.2 (Pure.low_not_le few0 set0)
  obtain ⟨x, hx⟩ : ∃ x, Pure.few b d o f / Pure.gcd (Pure.few b d o f) (Pure.sets b o) = x := ⟨_, rfl⟩
  obtain ⟨y, hy⟩ : ∃ y, Pure.sets b o / Pure.gcd (Pure.few b d o f) (Pure.sets b o) = y := ⟨_, rfl⟩
  rw [hx] at ln lo1 m1 m2 hr
  rw [hy] at ld lo1 m1 m2 m3 m4 hr
  obtain ⟨W1, hW1⟩ : ∃ W1, w.alloc (.cells #[.int .i64 x, .int .i64 y] 31) = W1 := ⟨_, rfl⟩
  have hB1 : Below w.heap.size w W1 := by rw [← hW1]; exact (Below.refl _ _).alloc (Nat.le_refl _) _
  have hp : W1.heap[B]? = some (.cells #[.int .i64 p, .int .i64 q] 31) := by rw [← hW1]; exact heap_up e0 _
  have hs : W1.heap[w.heap.size]? = some (.cells #[.int .i64 x, .int .i64 y] 31) := by rw [← hW1]; exact heap_top _ _ rfl
  have HC1 : Hid (∀ z : Among (Below W1.heap.size W1), Calls Tryz.prog 77 #[.agg #[.int .i64 x, .int .i64 y]] z.val fun e w' => e = .returned (.agg #[.int .i64 (y - x), .int .i64 y]) ∧ ∃ u : Among (Below W1.heap.size W1), w' = u.val) :=
    Lib.hid (fun z => calls_class ((not_any _ _ (by omega) (by omega) z.val).mono fun e w' h => ⟨h.1, z.ok.trans (h.2.mono z.ok.size)⟩))
  have HC2 : Hid (∀ z : Among (Below W1.heap.size W1), Calls Tryz.prog 76 #[.agg #[.int .i64 p, .int .i64 q], .agg #[.int .i64 (y - x), .int .i64 y]] z.val fun e w' => e = .returned (.bool (Pure.sellerOk b d o f p q)) ∧ ∃ u : Among (Below W1.heap.size W1), w' = u.val) :=
    Lib.hid (fun z => calls_class ((reaches_any _ _ _ _ m3 (by omega) m1 (by omega) _ hr z.val).mono fun e w' h => ⟨h.1, z.ok.trans (h.2.mono z.ok.size)⟩))
  have HSt : Hid (Below W1.heap.size W1 W1.drew) := Lib.hid (Below.refl _ _).drew
  have hne : Nonempty (Among (Below W1.heap.size W1)) := ⟨⟨_, HSt.out⟩⟩
  have z0 := amid_below (heap_cell hp (j := 0) rfl)
  have z1 := amid_below (heap_cell hp (j := 1) rfl)
  have z2 := amid_below (heap_cell hs (j := 0) rfl)
  have z3 := amid_below (heap_cell hs (j := 1) rfl)
  have HB1 := Lib.hid hB1
  have HW1 := Lib.hid hW1
  have HX := Lib.hid hx
  have HY := Lib.hid hy
  have HPV : Hid (partV (Pure.few b d o f) (Pure.sets b o) = .agg #[.int .i64 x, .int .i64 y]) := Lib.hid (by rw [← hx, ← hy])
  clear few0 set0 set1 ln ld lo1 m1 m2 m3 m4 hr e0 hp hs hB1 hW1 hx hy hfs
  rw [HPV.out]
  go_enter Tryz.func81, Tryz.ntmps81
  go_wp2_with fail
  rw [HW1.out]
  refine wp_region_tail 4 (Below W1.heap.size W1) (by kernel_rfl) (by kernel_rfl) HSt.out ?_
  simp only [List.take_succ_cons, List.take_zero, List.drop_succ_cons, List.drop_zero]
  repeat (go_big_quiet_step ((first | (go_at_call 77; exact HC1.out _) | (go_at_call 76; exact HC2.out _))))
  refine wpQuiet_nil ?_
  intro w2 hx
  have hS2 := among_out hx
  clear hx
  have HS2 := Lib.hid hS2
  clear hS2 hne z0 z1 z2 z3
  go_wp2_with fail
  go_ret
  exact ⟨rfl, HB1.out.trans (HS2.out.mono HB1.out.size)⟩

set_option maxHeartbeats 2000000 in
set_option maxRecDepth 100000 in
/-- **sides**. -/
theorem sides_any (good bad p q r s : Int) (w : World) :
    Calls Tryz.prog 51 #[.int .i64 good, .int .i64 bad, .agg #[.int .i64 p, .int .i64 q], .agg #[.int .i64 r, .int .i64 s]] w fun e w' =>
      e = .returned (.agg #[.int .i64 good, .func (.func 81) #[] #[.pointer (some ⟨w.heap.size, 0, none⟩)], .int .i64 bad, .func (.func 82) #[] #[.pointer (some ⟨w.heap.size + 1, 0, none⟩)]]) ∧
      w'.heap[w.heap.size]? = some (.cells #[.int .i64 p, .int .i64 q] 31) ∧ w'.heap[w.heap.size + 1]? = some (.cells #[.int .i64 r, .int .i64 s] 31) ∧ Below w.heap.size w w' := by
  go_enter Tryz.func51, Tryz.ntmps51
  go_wp2_with fail
  refine bodyPost_ret (v := .agg #[.int .i64 good, .func (.func 81) #[] #[.pointer (some ⟨w.heap.size, 0, none⟩)], .int .i64 bad, .func (.func 82) #[] #[.pointer (some ⟨w.heap.size + 1, 0, none⟩)]]) (by simp [results, Tryz.results51, go_sem]) rfl ⟨rfl, ?_, ?_, ?_⟩
  · exact heap_up (heap_up (heap_top _ _ rfl) _) _
  · exact heap_up (heap_top _ _ (by simp)) _
  · exact (((Below.refl _ _).alloc (Nat.le_refl _) _).alloc (by simp) _).alloc (by simp; omega) _

end Go.Proofs.YtjegkkpdemoldaaGreatDoor
