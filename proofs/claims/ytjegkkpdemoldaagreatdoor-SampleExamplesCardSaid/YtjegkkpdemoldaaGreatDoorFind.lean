/-
  The contract of find.
-/
import Derived.Test.YtjegkkpdemoldaaGreatDoorBound
import Derived.Test.YtjegkkpdemoldaaGreatDoorRefB
import Derived.Test.YtjegkkpdemoldaaGreatDoorTail
namespace Go.Proofs.YtjegkkpdemoldaaGreatDoor
open Go.RowKit Go.Shelf

namespace Pure
/-- Whether so many bags find a dirty one with at least a chance p/q. -/
def okFind (b d p q x : Int) : Bool := decide (p * sets b x ≤ (sets b x - few b d x 0) * q)
theorem few_zero {b d x : Int} (_hb0 : 0 ≤ b) (_hb : b ≤ 36) (hd0 : 0 ≤ d) (_hd : d ≤ b) (hx0 : 0 ≤ x) (_hx : x ≤ b) : few b d x 0 = sets (b - d) x := by
  rw [few_eq (by omega) hx0]
  show fewTo b d x 1 = _
  rw [fewTo_succ]
  show 0 + sets d 0 * sets (b - d) (x - 0) = _
  rw [sets_edge (n := d) (k := 0) (by omega) hd0 (.inl rfl)]
  simp
theorem sets_mono {n m k : Int} (_h0 : 0 ≤ n) (h : n ≤ m) : sets n k ≤ sets m k := by
  by_cases hk : k < 0
  · rw [sets_none (.inl hk)]; exact sets_nonneg _ _
  · by_cases h1 : n < k
    · rw [sets_none (.inr h1)]; exact sets_nonneg _ _
    · rw [sets_some (by omega) (by omega), sets_some (by omega) (by omega)]
      have := ch_mono_le (n := n.toNat) (m := m.toNat) (by omega) k.toNat
      omega
theorem few_le_sets {b d x : Int} (hb0 : 0 ≤ b) (hb : b ≤ 36) (hd0 : 0 ≤ d) (hd : d ≤ b) (hx0 : 0 ≤ x) (hx : x ≤ b) : few b d x 0 ≤ sets b x := by
  rw [few_zero hb0 hb hd0 hd hx0 hx]
  exact sets_mono (by omega) (by omega)
theorem any_find {α : Type} (f : α → Bool) : ∀ l : List α, l.any f = (l.find? f).isSome
  | [] => rfl
  | x :: l => by
    simp only [List.any_cons, List.find?_cons]
    cases h : f x
    · simpa using any_find f l
    · rfl
def find (b : Nat) (d p q : Int) : Option Int := (ints (b + 1)).find? (okFind b d p q)
end Pure

set_option maxHeartbeats 1000000 in
set_option maxRecDepth 100000 in
theorem findOne_any {M T C : Nat} (b lo hi d p q x : Int) (Bh Bd Bp : Nat) (hb0 : 0 ≤ b) (hb : b ≤ 36) (hd0 : 0 ≤ d) (hd : d ≤ b) (hx0 : 0 ≤ x) (hx : x ≤ b) (hp0 : 0 ≤ p) (hpq : p ≤ q) (hq0 : 1 ≤ q) (hq : q ≤ 1000) (w : World) (hw : Cnt w M T C)
    (e0 : w.heap[Bh]? = some (.cells #[.int .i64 b, .int .i64 lo, .int .i64 hi, setsV T C] 82)) (e1 : w.heap[Bd]? = some (.cells #[.int .i64 d] 3)) (e2 : w.heap[Bp]? = some (.cells #[.int .i64 p, .int .i64 q] 31)) :
    Calls Tryz.prog 75 #[.int .i64 x, .pointer (some ⟨Bh, 0, none⟩), .pointer (some ⟨Bd, 0, none⟩), .pointer (some ⟨Bp, 0, none⟩)] w fun e w' => e = .returned (.bool (Pure.okFind b d p q x)) ∧ Step M w w' := by
  have few0 : 0 ≤ Pure.few b d x 0 := Pure.few_nonneg
  have few2 : Pure.few b d x 0 ≤ Pure.sets b x := Pure.few_le_sets hb0 hb hd0 hd hx0 hx
  have set0 : 0 < Pure.sets b x := Pure.sets_pos hx0 hx
  have set1 : Pure.sets b x ≤ 68719476736 := Pure.sets_le (by omega)
  have ln := Pure.low_num few0 set0
  have ld := Pure.low_den few0 set0
  have lo1 := Pure.low_le_one few0 set0 few2
  have m1 : 0 ≤ (Pure.sets b x / Pure.gcd (Pure.few b d x 0) (Pure.sets b x) - Pure.few b d x 0 / Pure.gcd (Pure.few b d x 0) (Pure.sets b x)) * q := Int.mul_nonneg (by omega) (by omega)
  have m2 : (Pure.sets b x / Pure.gcd (Pure.few b d x 0) (Pure.sets b x) - Pure.few b d x 0 / Pure.gcd (Pure.few b d x 0) (Pure.sets b x)) * q ≤ 68719476736 * 1000 := Int.mul_le_mul (by omega) hq (by omega) (by decide)
  have m3 : 0 ≤ p * (Pure.sets b x / Pure.gcd (Pure.few b d x 0) (Pure.sets b x)) := Int.mul_nonneg hp0 (by omega)
  have m4 : p * (Pure.sets b x / Pure.gcd (Pure.few b d x 0) (Pure.sets b x)) ≤ 1000 * 68719476736 := Int.mul_le_mul (by omega) (by omega) (by omega) (by decide)
  have hr : decide (p * (Pure.sets b x / Pure.gcd (Pure.few b d x 0) (Pure.sets b x)) ≤ (Pure.sets b x / Pure.gcd (Pure.few b d x 0) (Pure.sets b x) - Pure.few b d x 0 / Pure.gcd (Pure.few b d x 0) (Pure.sets b x)) * q) = Pure.okFind b d p q x := by
    unfold Pure.okFind
    exact decide_eq_decide.2 (Pure.low_not_ge few0 set0)
  have HC1 : Hid (∀ y : Among (Step M w), Calls Tryz.prog 61 #[holdV b lo hi T C, .int .i64 d, .agg #[.int .i64 x, .int .i64 0]] y.val fun e w' => e = .returned (partV (Pure.few b d x 0) (Pure.sets b x)) ∧ ∃ z : Among (Step M w), w' = z.val) :=
    Lib.hid (fun y => calls_class ((holdAtMost_any b lo hi d x 0 hb0 hb (by omega) (by omega) (by omega) hx0 hx y.val (hw.step y.ok)).mono fun e w' h => ⟨h.1, y.ok.trans h.2⟩))
  have HC2 : Hid (∀ y : Among (Step M w), Calls Tryz.prog 77 #[partV (Pure.few b d x 0) (Pure.sets b x)] y.val fun e w' => e = .returned (.agg #[.int .i64 (Pure.sets b x / Pure.gcd (Pure.few b d x 0) (Pure.sets b x) - Pure.few b d x 0 / Pure.gcd (Pure.few b d x 0) (Pure.sets b x)), .int .i64 (Pure.sets b x / Pure.gcd (Pure.few b d x 0) (Pure.sets b x))]) ∧ ∃ z : Among (Step M w), w' = z.val) :=
    Lib.hid (fun y => calls_class ((not_any _ _ (by omega) (by omega) y.val).mono fun e w' h => ⟨h.1, y.ok.trans (Step.of_below h.2 y.ok.memo)⟩))
  have HC3 : Hid (∀ y : Among (Step M w), Calls Tryz.prog 76 #[.agg #[.int .i64 (Pure.sets b x / Pure.gcd (Pure.few b d x 0) (Pure.sets b x) - Pure.few b d x 0 / Pure.gcd (Pure.few b d x 0) (Pure.sets b x)), .int .i64 (Pure.sets b x / Pure.gcd (Pure.few b d x 0) (Pure.sets b x))], .agg #[.int .i64 p, .int .i64 q]] y.val fun e w' => e = .returned (.bool (Pure.okFind b d p q x)) ∧ ∃ z : Among (Step M w), w' = z.val) :=
    Lib.hid (fun y => calls_class ((reaches_any _ _ _ _ m1 (by omega) m3 (by omega) _ hr y.val).mono fun e w' h => ⟨h.1, y.ok.trans (Step.of_below h.2 y.ok.memo)⟩))
  have x0 := among_cell hw.memo (heap_cell e0 (j := 0) rfl)
  have x1 := among_cell hw.memo (heap_cell e0 (j := 1) rfl)
  have x2 := among_cell hw.memo (heap_cell e0 (j := 2) rfl)
  have x3 := among_cell hw.memo (heap_cell e0 (j := 3) rfl)
  have y0 := among_cell hw.memo (heap_cell e1 (j := 0) rfl)
  have z0 := among_cell hw.memo (heap_cell e2 (j := 0) rfl)
  have z1 := among_cell hw.memo (heap_cell e2 (j := 1) rfl)
  have HSt : Hid (Step M w w.drew) := Lib.hid (Step.refl hw.memo).drew
  have hne : Nonempty (Among (Step M w)) := ⟨⟨_, HSt.out⟩⟩
  clear few0 few2 set0 set1 ln ld lo1 m1 m2 m3 m4 hr e0 e1 e2 hw
  go_enter Tryz.func75, Tryz.ntmps75
  go_wp2_with fail
  refine wp_region_tail 8 (Step M w) (by kernel_rfl) (by kernel_rfl) HSt.out ?_
  simp only [List.take_succ_cons, List.take_zero, List.drop_succ_cons, List.drop_zero]
  repeat (go_big_quiet_step ((first | (go_at_call 61; exact HC1.out _) | (go_at_call 77; exact HC2.out _) | (go_at_call 76; exact HC3.out _))))
  refine wpQuiet_nil ?_
  intro w2 hx
  have hS2 := among_out hx
  clear hx
  have HS2 := Lib.hid hS2
  clear hS2 hne x0 x1 x2 x3 y0 z0 z1
  go_wp2_with fail
  go_ret
  exact ⟨rfl, HS2.out⟩

set_option maxHeartbeats 1000000 in
set_option maxRecDepth 100000 in
theorem find_any {b M T C : Nat} (lo hi d p q : Int) (hb : b ≤ 36) (hd0 : 0 ≤ d) (hd : d ≤ b) (hp0 : 0 ≤ p) (hpq : p ≤ q) (hq0 : 1 ≤ q) (hq : q ≤ 1000) (w : World) (hw : Cnt w M T C) :
    Calls Tryz.prog 44 #[holdV b lo hi T C, .int .i64 d, .agg #[.int .i64 p, .int .i64 q]] w fun e w' => e = .returned (.tuple #[.int .i64 ((Pure.find b d p q).getD 0), .bool (Pure.find b d p q).isSome]) ∧ Step M w w' := by
  have HW := Lib.hid hw
  clear hw
  go_enter Tryz.func44, Tryz.ntmps44
  go_wp2_with (first | (go_at_call 74; refine (upTo_any _ _).mono ?_; rintro e w' ⟨rfl, rfl⟩))
  have hst : Step M w ((((w.alloc (.cells #[.int .i64 b, .int .i64 lo, .int .i64 hi, setsV T C] 82)).alloc (.cells #[.int .i64 d] 3)).alloc (.cells #[.int .i64 p, .int .i64 q] 31)).alloc (.cells #[.int .i64 b] 3)) := ((((Step.refl HW.out.memo).alloc _).alloc _).alloc _).alloc _
  have HST := Lib.hid hst
  clear hst
  have hcall := callsIn_wide.1 (firstInt_in 0 (w.heap.size + 1 + 1 + 1) b (by omega) (M := M) 75 #[.pointer (some ⟨w.heap.size, 0, none⟩), .pointer (some ⟨w.heap.size + 1, 0, none⟩), .pointer (some ⟨w.heap.size + 1 + 1, 0, none⟩)] (Pure.okFind b d p q) _
    HST.out.memo (by simp) (cell_top _ _ _ (by simp)) (by have := HW.out.lt; omega) (enters_of Tryz.func75 (by kernel_rfl) rfl)
    (fun V hV x hx0 hx1 => by
      have hM := HW.out.lt.1
      refine findOne_any b lo hi d p q x w.heap.size (w.heap.size + 1) (w.heap.size + 1 + 1) (by omega) (by omega) hd0 hd hx0 hx1 hp0 hpq hq0 hq V ((HW.out.step HST.out).step hV) ?_ ?_ ?_
      · exact hV.heap (heap_up (heap_up (heap_up (heap_top _ _ rfl) _) _) _) (by omega)
      · exact hV.heap (heap_up (heap_up (heap_top _ _ (by simp)) _) _) (by omega)
      · exact hV.heap (heap_up (heap_top _ _ (by simp)) _) (by omega)))
  refine hcall.mono ?_
  rintro e w2 ⟨rfl, hs2⟩
  have HS2 := Lib.hid (HST.out.trans hs2)
  have HE : Hid (((Pure.ints (b + 1)).find? (Pure.okFind b d p q)) = Pure.find b d p q) := Lib.hid rfl
  have HA : Hid ((Pure.ints (b + 1)).any (Pure.okFind b d p q) = (Pure.find b d p q).isSome) := Lib.hid (Pure.any_find _ _)
  rw [HE.out, HA.out]
  clear hs2 hcall
  go_wp2_with fail
  go_ret2
  exact ⟨rfl, HS2.out⟩

end Go.Proofs.YtjegkkpdemoldaaGreatDoor
