/-
  The contracts of pressed, shiftOf, checkThings, and of what is wrong of a shift; menFit and shiftsFit.
-/
import Derived.Test.YtijfdfplebbaaaaGreatUBase
namespace Go.Proofs.YtijfdfplebbaaaaGreat
open Go.RowKit

namespace Pure
def pressed (n : Nat) (P : Nat → Int) (id : Int) : Bool := (List.range n).any fun j => P (j * 4) == id
def shiftAt (n : Nat) (S : Nat → Int) (id : Int) : Int := firstAt (fun j => S (j * 2) == id) n
def thingBad (r : RollX) (d : RollD) (m p : Int) : Bool := !has r.mn d.M m || decide (shiftAt r.sn d.S p < 0)
def shiftBad (r : RollX) (d : RollD) (p e : Int) : Bool := !pressed r.pn d.P p || !decide (0 ≤ e ∧ e ≤ 1000000)
def noteBad (r : RollX) (d : RollD) (x : NoteX) : Bool := !decide (1 ≤ x.n ∧ x.n ≤ 9999) || (thingBad r d x.m1 x.p1 || thingBad r d x.m2 x.p2)
def menOk (r : RollX) (d : RollD) : Bool := decide ((r.mn : Int) ≤ 4) && inSpan 1 9999 r.mn d.M && inOrder (fun j => decide (d.M j < d.M (j + 1))) r.mn
def shiftsOk (r : RollX) (d : RollD) : Bool := decide ((r.sn : Int) ≤ 4) && !((List.range r.sn).any fun j => shiftBad r d (d.S (j * 2)) (d.S (j * 2 + 1))) && inOrder (fun j => decide (d.S (j * 2) < d.S ((j + 1) * 2))) r.sn
def notesOk (r : RollX) (d : RollD) : Bool := decide ((r.nn : Int) ≤ 24) && !((List.range r.nn).any fun j => noteBad r d (d.N j)) && inOrder (fun j => decide ((d.N j).n < (d.N (j + 1)).n)) r.nn
def roll (r : RollX) (d : RollD) : Bool := menOk r d && shiftsOk r d && notesOk r d
end Pure

theorem pressedId_any (B : Nat) (id i d p t : Int) (w : World) (hB : w.heap[B]? = some (.cells #[.int .i64 id] 3)) :
    Calls Tryz.prog 100 #[ringV i d p t, .pointer (some ⟨B, 0, none⟩)] w fun e w' => e = .returned (.bool (i == id)) ∧ Below w.heap.size w w' := by
  have k0 := heap_cell (heap_up hB (ringB i d p t)) (j := 0) rfl
  go_enter Tryz.func100, Tryz.ntmps100
  go_wp2_with fail
  go_ret
  exact ⟨rfl, below_new _ _⟩
theorem shiftId_any (B : Nat) (id p e' : Int) (w : World) (hB : w.heap[B]? = some (.cells #[.int .i64 id] 3)) :
    Calls Tryz.prog 107 #[shiftV p e', .pointer (some ⟨B, 0, none⟩)] w fun e w' => e = .returned (.bool (p == id)) ∧ Below w.heap.size w w' := by
  have k0 := heap_cell (heap_up hB (shiftB p e')) (j := 0) rfl
  go_enter Tryz.func107, Tryz.ntmps107
  go_wp2_with fail
  go_ret
  exact ⟨rfl, below_new _ _⟩
set_option maxHeartbeats 2000000 in
set_option maxRecDepth 100000 in
theorem pressed_any (a : Option Addr) (n c : Nat) (b : Option Addr) (m d : Nat) (P : Nat → Int) (id : Int) (hn : n ≤ 60) (w : World) (hP : NumsAt w a (n * 4) P) :
    Calls Tryz.prog 84 #[pressV a n c b m d, .int .i64 id] w fun e w' => e = .returned (.bool (Pure.pressed n P id)) ∧ Below w.heap.size w w' := by
  obtain ⟨W, hW⟩ : ∃ W, (w.alloc (pressB a n c b m d)).alloc (.cells #[.int .i64 id] 3) = W := ⟨_, rfl⟩
  have HB : Hid (Below w.heap.size w W) := Lib.hid (by rw [← hW]; exact (below_new _ _).alloc (by simp) _)
  have HX : Hid (W.heap[w.heap.size]? = some (pressB a n c b m d)) := Lib.hid (by rw [← hW]; exact heap_up (heap_top _ _ rfl) _)
  have HI : Hid (W.heap[w.heap.size + 1]? = some (.cells #[.int .i64 id] 3)) := Lib.hid (by rw [← hW]; exact heap_top _ _ (by simp))
  have HP := Lib.hid (hP.below HB.out)
  clear hP
  have x0 := heap_cell HX.out (j := 0) rfl
  go_enter Tryz.func84, Tryz.ntmps84
  go_upto_region 1 with fail
  try rw [hW]
  clear hW
  go_wp2_with fail
  refine (containsPressed_any (w.heap.size + 1) a n c P (fun j => P (j * 4) == id) hn _ HP.out (fun u j hj hb => pressedId_any (w.heap.size + 1) id _ _ _ _ u (heap_lft HI.out hb))).mono ?_
  rintro e u ⟨rfl, hb⟩
  have HB2 := Lib.hid (below_thn HB.out hb)
  clear hb x0
  go_wp2_with fail
  go_ret
  exact ⟨rfl, HB2.out⟩
set_option maxHeartbeats 2000000 in
set_option maxRecDepth 100000 in
theorem shiftOf_any (r : RollX) (d : RollD) (id : Int) (hN : RollN r) (w : World) (hR : RollAt w r d) :
    Calls Tryz.prog 103 #[rollV r, .int .i64 id] w fun e w' => e = .returned (.int .i64 (Pure.shiftAt r.sn d.S id)) ∧ Below w.heap.size w w' := by
  obtain ⟨W, hW⟩ : ∃ W, (w.alloc (rollB r)).alloc (.cells #[.int .i64 id] 3) = W := ⟨_, rfl⟩
  have HB : Hid (Below w.heap.size w W) := Lib.hid (by rw [← hW]; exact (below_new _ _).alloc (by simp) _)
  have HX : Hid (W.heap[w.heap.size]? = some (rollB r)) := Lib.hid (by rw [← hW]; exact heap_up (heap_top _ _ rfl) _)
  have HI : Hid (W.heap[w.heap.size + 1]? = some (.cells #[.int .i64 id] 3)) := Lib.hid (by rw [← hW]; exact heap_top _ _ (by simp))
  have HR := Lib.hid (hR.below HB.out)
  clear hR
  have x3 := heap_cell HX.out (j := 3) rfl
  go_enter Tryz.func103, Tryz.ntmps103
  go_upto_region 1 with fail
  try rw [hW]
  clear hW
  go_wp2_with fail
  refine (indexShiftOf_any (w.heap.size + 1) r.sa r.sn r.sc d.S (fun j => d.S (j * 2) == id) hN.s _ HR.out.s (fun u j hj hb => shiftId_any (w.heap.size + 1) id _ _ u (heap_lft HI.out hb))).mono ?_
  rintro e u ⟨rfl, hb⟩
  have HB2 := Lib.hid (below_thn HB.out hb)
  clear hb x3
  go_wp2_with fail
  go_ret
  exact ⟨rfl, HB2.out⟩
set_option maxHeartbeats 2000000 in
set_option maxRecDepth 100000 in
theorem thingBad_any (B : Nat) (r : RollX) (d : RollD) (m p : Int) (b : Bool) (hN : RollN r) (w : World) (hB : w.heap[B]? = some (rollB r)) (hR : RollAt w r d) :
    Calls Tryz.prog 102 #[thingV m p b, .pointer (some ⟨B, 0, none⟩)] w fun e w' => e = .returned (.bool (Pure.thingBad r d m p)) ∧ Below w.heap.size w w' := by
  obtain ⟨W, hW⟩ : ∃ W, w.alloc (thingB m p b) = W := ⟨_, rfl⟩
  have HB : Hid (Below w.heap.size w W) := Lib.hid (by rw [← hW]; exact below_new _ _)
  have HX := Lib.hid (heap_lft hB HB.out)
  have HT : Hid (W.heap[w.heap.size]? = some (thingB m p b)) := Lib.hid (by rw [← hW]; exact heap_top _ _ rfl)
  have HR := Lib.hid (hR.below HB.out)
  clear hR hB
  unfold Pure.thingBad
  obtain ⟨q, hq⟩ : ∃ q, Pure.has r.mn d.M m = q := ⟨_, rfl⟩
  rw [hq]
  have HQ := Lib.hid hq
  clear hq
  have x2 := heap_cell HX.out (j := 2) rfl
  have t0 := heap_cell HT.out (j := 0) rfl
  go_enter Tryz.func102, Tryz.ntmps102
  go_upto_region 1 with fail
  try rw [hW]
  clear hW
  go_wp2_with fail
  refine (containsNum_any r.ma r.mn r.mc d.M m (by have := hN.m; omega) _ HR.out.m).mono ?_
  rintro e u ⟨rfl, hb⟩
  rw [HQ.out]
  have HB2 := Lib.hid (below_thn HB.out hb)
  have HX2 := Lib.hid (heap_lft HX.out hb)
  have HT2 := Lib.hid (heap_lft HT.out hb)
  have HR2 := Lib.hid (HR.out.below hb)
  clear hb x2 t0
  cases q
  · go_wp2_with fail
    go_ret
    exact ⟨rfl, HB2.out⟩
  · have x0 := heap_cell HX2.out (j := 0) rfl
    have x1 := heap_cell HX2.out (j := 1) rfl
    have x2 := heap_cell HX2.out (j := 2) rfl
    have x3 := heap_cell HX2.out (j := 3) rfl
    have x4 := heap_cell HX2.out (j := 4) rfl
    have t1 := heap_cell HT2.out (j := 1) rfl
    go_wp2_with fail
    refine (shiftOf_any r d p hN _ HR2.out).mono ?_
    rintro e u3 ⟨rfl, hb⟩
    have HB3 := Lib.hid (below_thn HB2.out hb)
    clear hb x0 x1 x2 x3 x4 t1
    go_wp2_with fail
    go_ret
    exact ⟨rfl, HB3.out⟩
set_option maxHeartbeats 2000000 in
set_option maxRecDepth 100000 in
theorem checkThings_any (r : RollX) (d : RollD) (a : Option Addr) (len cap : Nat) (A D : Nat → Int) (Q : Nat → Bool) (hN : RollN r) (hl : len ≤ 60) (w : World) (hR : RollAt w r d) (hT : ThingsAt w a len A D Q) :
    Calls Tryz.prog 89 #[rollV r, .slice a len cap] w fun e w' => e = .returned (.int .i64 (Pure.err (!((List.range len).any fun j => Pure.thingBad r d (A j) (D j))) 92)) ∧ Below w.heap.size w w' := by
  obtain ⟨W, hW⟩ : ∃ W, w.alloc (rollB r) = W := ⟨_, rfl⟩
  have HB : Hid (Below w.heap.size w W) := Lib.hid (by rw [← hW]; exact below_new _ _)
  have HX : Hid (W.heap[w.heap.size]? = some (rollB r)) := Lib.hid (by rw [← hW]; exact heap_top _ _ rfl)
  have HR := Lib.hid (hR.below HB.out)
  have HT := Lib.hid (hT.below HB.out)
  clear hR hT
  obtain ⟨q, hq⟩ : ∃ q, (List.range len).any (fun j => Pure.thingBad r d (A j) (D j)) = q := ⟨_, rfl⟩
  rw [hq]
  have HQ := Lib.hid hq
  clear hq
  go_enter Tryz.func89, Tryz.ntmps89
  go_upto_region 1 with fail
  try rw [hW]
  clear hW
  go_wp2_with fail
  refine (containsThingBad_any w.heap.size a len cap A D Q (fun j => Pure.thingBad r d (A j) (D j)) hl _ HT.out (fun u j hj hb => thingBad_any w.heap.size r d (A j) (D j) (Q j) hN u (heap_lft HX.out hb) (HR.out.below hb))).mono ?_
  rintro e u ⟨rfl, hb⟩
  rw [HQ.out]
  have HB2 := Lib.hid (below_thn HB.out hb)
  clear hb
  go_wp2_with fail
  refine (tunless_any (!q) 92 _).mono ?_
  rintro e w3 ⟨rfl, rfl⟩
  go_wp2_with fail
  go_ret
  exact ⟨rfl, HB2.out⟩
set_option maxHeartbeats 2000000 in
set_option maxRecDepth 100000 in
theorem shiftBad_any (B : Nat) (r : RollX) (d : RollD) (p e' : Int) (hN : RollN r) (w : World) (hB : w.heap[B]? = some (rollB r)) (hR : RollAt w r d) :
    Calls Tryz.prog 83 #[shiftV p e', .pointer (some ⟨B, 0, none⟩)] w fun e w' => e = .returned (.bool (Pure.shiftBad r d p e')) ∧ Below w.heap.size w w' := by
  obtain ⟨W, hW⟩ : ∃ W, w.alloc (shiftB p e') = W := ⟨_, rfl⟩
  have HB : Hid (Below w.heap.size w W) := Lib.hid (by rw [← hW]; exact below_new _ _)
  have HX := Lib.hid (heap_lft hB HB.out)
  have HT : Hid (W.heap[w.heap.size]? = some (shiftB p e')) := Lib.hid (by rw [← hW]; exact heap_top _ _ rfl)
  have HR := Lib.hid (hR.below HB.out)
  clear hR hB
  unfold Pure.shiftBad
  obtain ⟨q, hq⟩ : ∃ q, Pure.pressed r.pn d.P p = q := ⟨_, rfl⟩
  obtain ⟨q2, hq2⟩ : ∃ q, decide (0 ≤ e' ∧ e' ≤ 1000000) = q := ⟨_, rfl⟩
  rw [hq, hq2]
  have HQ := Lib.hid hq
  have HQ2 := Lib.hid hq2
  clear hq hq2
  have x0 := heap_cell HX.out (j := 0) rfl
  have x1 := heap_cell HX.out (j := 1) rfl
  have t0 := heap_cell HT.out (j := 0) rfl
  go_enter Tryz.func83, Tryz.ntmps83
  go_upto_region 1 with fail
  try rw [hW]
  clear hW
  go_wp2_with fail
  refine (pressed_any r.pa r.pn r.pc r.wa r.wn r.wc d.P p hN.p _ HR.out.p).mono ?_
  rintro e u ⟨rfl, hb⟩
  rw [HQ.out]
  have HB2 := Lib.hid (below_thn HB.out hb)
  have HT2 := Lib.hid (heap_lft HT.out hb)
  clear hb x0 x1 t0
  cases q
  · go_wp2_with fail
    go_ret
    exact ⟨rfl, HB2.out⟩
  · have t1 := heap_cell HT2.out (j := 1) rfl
    go_wp2_with fail
    refine (twithin1 0 1000000 e' _ _ _ (first_cell _ _ _ (by simp)) q2 HQ2.out).mono ?_
    rintro e w3 ⟨rfl, rfl⟩
    clear t1
    go_wp2_with fail
    go_ret
    exact ⟨rfl, (HB2.out.alloc (by have := HB2.out.size; simp; try omega) _).alloc (by have := HB2.out.size; simp; try omega) _⟩
set_option maxHeartbeats 2000000 in
set_option maxRecDepth 100000 in
theorem shiftsFit_any (r : RollX) (d : RollD) (hN : RollN r) (w : World) (hR : RollAt w r d) :
    Calls Tryz.prog 56 #[rollV r] w fun e w' => e = .returned (.bool (Pure.shiftsOk r d)) ∧ Below w.heap.size w w' := by
  obtain ⟨W, hW⟩ : ∃ W, w.alloc (rollB r) = W := ⟨_, rfl⟩
  have HB : Hid (Below w.heap.size w W) := Lib.hid (by rw [← hW]; exact below_new _ _)
  have HX : Hid (W.heap[w.heap.size]? = some (rollB r)) := Lib.hid (by rw [← hW]; exact heap_top _ _ rfl)
  have HR := Lib.hid (hR.below HB.out)
  clear hR
  unfold Pure.shiftsOk
  obtain ⟨r2, hr2⟩ : ∃ q, (List.range r.sn).any (fun j => Pure.shiftBad r d (d.S (j * 2)) (d.S (j * 2 + 1))) = q := ⟨_, rfl⟩
  obtain ⟨r3, hr3⟩ : ∃ q, Pure.inOrder (fun j => decide (d.S (j * 2) < d.S ((j + 1) * 2))) r.sn = q := ⟨_, rfl⟩
  rw [hr2, hr3]
  have HR2 := Lib.hid hr2
  have HR3 := Lib.hid hr3
  clear hr2 hr3
  have x3 := heap_cell HX.out (j := 3) rfl
  go_enter Tryz.func56, Tryz.ntmps56
  go_upto_region 1 with fail
  try rw [hW]
  clear hW
  by_cases hm : (r.sn : Int) ≤ 4
  · go_wp2_with fail
    refine (containsShiftBad_any w.heap.size r.sa r.sn r.sc d.S (fun j => Pure.shiftBad r d (d.S (j * 2)) (d.S (j * 2 + 1))) hN.s _ HR.out.s (fun u j hj hb => shiftBad_any w.heap.size r d _ _ hN u (heap_lft HX.out hb) (HR.out.below hb))).mono ?_
    rintro e w2 ⟨rfl, hb⟩
    rw [HR2.out]
    have HB2 := Lib.hid (below_thn HB.out hb)
    have HRR := Lib.hid (HR.out.below hb)
    have HX2 := Lib.hid (heap_lft HX.out hb)
    clear x3 hb
    have x3 := heap_cell HX2.out (j := 3) rfl
    cases r2
    · go_wp2_with fail
      refine (inOrderShift_any r.sa r.sn r.sc d.S (fun j => decide (d.S (j * 2) < d.S ((j + 1) * 2))) hN.s _ HRR.out.s (fun u j hj hb => ShiftLess_any _ _ _ _ u)).mono ?_
      rintro e w3 ⟨rfl, hb⟩
      rw [HR3.out]
      have HB3 := Lib.hid (below_thn HB2.out hb)
      clear hb x3
      go_wp2_with fail
      go_ret
      exact ⟨ret_bool (by rw [decide_eq_true hm]; rfl), HB3.out⟩
    · go_wp2_with fail
      go_ret
      exact ⟨ret_bool (by simp), HB2.out⟩
  · go_wp2_with fail
    go_ret
    exact ⟨ret_bool (by rw [decide_eq_false (show ¬ (r.sn : Int) ≤ 4 by omega)]; rfl), HB.out⟩
set_option maxHeartbeats 2000000 in
set_option maxRecDepth 100000 in
theorem menFit_any (r : RollX) (d : RollD) (hN : RollN r) (w : World) (hR : RollAt w r d) :
    Calls Tryz.prog 55 #[rollV r] w fun e w' => e = .returned (.bool (Pure.menOk r d)) ∧ Below w.heap.size w w' := by
  obtain ⟨W, hW⟩ : ∃ W, w.alloc (rollB r) = W := ⟨_, rfl⟩
  have HB : Hid (Below w.heap.size w W) := Lib.hid (by rw [← hW]; exact below_new _ _)
  have HX : Hid (W.heap[w.heap.size]? = some (rollB r)) := Lib.hid (by rw [← hW]; exact heap_top _ _ rfl)
  have HR := Lib.hid (hR.below HB.out)
  clear hR
  unfold Pure.menOk
  obtain ⟨r2, hr2⟩ : ∃ q, Pure.inSpan 1 9999 r.mn d.M = q := ⟨_, rfl⟩
  obtain ⟨r3, hr3⟩ : ∃ q, Pure.inOrder (fun j => decide (d.M j < d.M (j + 1))) r.mn = q := ⟨_, rfl⟩
  have HC1 : Hid (∀ xq : Among (Below W.heap.size W), Calls Tryz.prog 81 #[] xq.val fun e w' => e = .returned (spanV 1 9999) ∧ ∃ y : Among (Below W.heap.size W), w' = y.val) :=
    Lib.hid (fun xq => calls_class ((tids_any xq.val).mono fun e w' h => ⟨h.1, xq.ok.trans (h.2.mono xq.ok.size)⟩))
  have HC2 : Hid (∀ xq : Among (Below W.heap.size W), Calls Tryz.prog 80 #[spanV 1 9999, .slice r.ma r.mn r.mc] xq.val fun e w' => e = .returned (.bool r2) ∧ ∃ y : Among (Below W.heap.size W), w' = y.val) :=
    Lib.hid (fun xq => calls_class ((twithin_nums 1 9999 r.ma r.mn r.mc d.M (by have := hN.m; omega) xq.val (HR.out.m.below xq.ok)).mono fun e w' h => ⟨h.1.trans (ret_bool hr2), by rw [h.2]; exact xq.ok.trans ((below_new _ _).mono xq.ok.size)⟩))
  have HC3 : Hid (∀ xq : Among (Below W.heap.size W), Calls Tryz.prog 50 #[.slice r.ma r.mn r.mc, .func (.func 82) #[] #[]] xq.val fun e w' => e = .returned (.bool r3) ∧ ∃ y : Among (Below W.heap.size W), w' = y.val) :=
    Lib.hid (fun xq => calls_class ((inOrderMen_any r.ma r.mn r.mc d.M (fun j => decide (d.M j < d.M (j + 1))) (by have := hN.m; omega) xq.val (HR.out.m.below xq.ok) (fun u j hj hb => lessMen_any _ _ u)).mono fun e w' h => ⟨h.1.trans (ret_bool hr3), xq.ok.trans (h.2.mono xq.ok.size)⟩))
  rw [hr2, hr3]
  clear hr2 hr3
  have x2 := heap_cell HX.out (j := 2) rfl
  have xx1 := among_below x2
  go_enter Tryz.func55, Tryz.ntmps55
  go_upto_region 1 with fail
  try rw [hW]
  clear hW
  by_cases hm : (r.mn : Int) ≤ 4
  · have q1 : decide ((r.mn : Int) ≤ 4) = true := decide_eq_true hm
    have HM := Lib.hid hm
    clear hm x2
    cases r2
    · have HSt : Hid (Below W.heap.size W W.drew) := Lib.hid (Below.refl _ _).drew
      have hne : Nonempty (Among (Below W.heap.size W)) := ⟨⟨_, HSt.out⟩⟩
      refine wp_region_class (Below W.heap.size W) (by kernel_rfl) (by kernel_rfl) HSt.out ?_
      repeat (go_big_quiet_step ((first | (go_at_call 81; exact HC1.out _) | (go_at_call 80; exact HC2.out _) | (go_at_call 50; exact HC3.out _))))
      refine wpQuiet_nil ?_
      intro w8 hx
      have HB8 := Lib.hid (below_thn HB.out (among_out hx))
      clear hx hne xx1
      go_wp2_with fail
      go_ret
      exact ⟨ret_bool (by simp), HB8.out⟩
    · have HSt : Hid (Below W.heap.size W W.drew) := Lib.hid (Below.refl _ _).drew
      have hne : Nonempty (Among (Below W.heap.size W)) := ⟨⟨_, HSt.out⟩⟩
      refine wp_region_class (Below W.heap.size W) (by kernel_rfl) (by kernel_rfl) HSt.out ?_
      repeat (go_big_quiet_step ((first | (go_at_call 81; exact HC1.out _) | (go_at_call 80; exact HC2.out _) | (go_at_call 50; exact HC3.out _))))
      refine wpQuiet_nil ?_
      intro w8 hx
      have HB8 := Lib.hid (below_thn HB.out (among_out hx))
      clear hx hne xx1
      go_wp2_with fail
      go_ret
      exact ⟨ret_bool (by rw [decide_eq_true HM.out]; rfl), HB8.out⟩
  · have q1 : decide ((r.mn : Int) ≤ 4) = false := decide_eq_false (by omega)
    have HM := Lib.hid hm
    clear hm x2
    have HSt : Hid (Below W.heap.size W W.drew) := Lib.hid (Below.refl _ _).drew
    have hne : Nonempty (Among (Below W.heap.size W)) := ⟨⟨_, HSt.out⟩⟩
    refine wp_region_class (Below W.heap.size W) (by kernel_rfl) (by kernel_rfl) HSt.out ?_
    repeat (go_big_quiet_step ((first | (go_at_call 81; exact HC1.out _) | (go_at_call 80; exact HC2.out _) | (go_at_call 50; exact HC3.out _))))
    refine wpQuiet_nil ?_
    intro w8 hx
    have HB8 := Lib.hid (below_thn HB.out (among_out hx))
    clear hx hne xx1
    go_wp2_with fail
    go_ret
    exact ⟨ret_bool (by first | rfl | (rw [decide_eq_false (show ¬ (r.mn : Int) ≤ 4 by have := HM.out; omega)]; rfl)), HB8.out⟩

end Go.Proofs.YtijfdfplebbaaaaGreat
