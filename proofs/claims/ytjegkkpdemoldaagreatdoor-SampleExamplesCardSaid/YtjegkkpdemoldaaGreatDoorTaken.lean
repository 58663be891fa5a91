/-
  The contract of taken.
-/
import Derived.Test.YtjegkkpdemoldaaGreatDoorDouble
import Derived.Test.YtjegkkpdemoldaaGreatDoorVander
import Derived.Laws.Runes
namespace Go.Proofs.YtjegkkpdemoldaaGreatDoor
open Go.RowKit Go.Shelf

namespace Pure
theorem sumTo_mono {b d o : Int} {f g : Int → Int} {n : Nat} (h : ∀ j : Nat, j < n → f j ≤ g j) : ∀ k : Nat, k ≤ n → sumTo b d o f k ≤ sumTo b d o g k
  | 0, _ => Int.le_refl _
  | k + 1, hk => by
    rw [sumTo_succ, sumTo_succ]
    have h1 := sumTo_mono (b := b) (d := d) (o := o) h k (by omega)
    have h2 := Int.mul_le_mul_of_nonneg_left (h k (by omega)) (ways_nonneg b d o k)
    omega
theorem few_any_le {b d o m : Int} (hd0 : 0 ≤ d) (hd : d ≤ b) (ho0 : 0 ≤ o) : few b d o m ≤ sets b o := by
  refine Int.le_trans ?_ (few_le_all (f := o) hd0 hd ho0 ho0 (Int.le_refl _))
  unfold few sum
  exact sumTo_mono (n := (o + 1).toNat) (fun j hj => by rw [ind_le (m := o) (by omega)]; exact ind_le_one m j) _ (Nat.le_refl _)
theorem ways_le_sets {b d o : Int} (hd0 : 0 ≤ d) (hd : d ≤ b) (ho0 : 0 ≤ o) {j : Nat} (hj : (j : Int) ≤ o) : ways b d o j ≤ sets b o := by
  have h1 := fewTo_mono b d o (j := j + 1) (k := (o + 1).toNat) (by omega)
  rw [fewTo_all hd0 hd ho0, fewTo_succ] at h1
  have h2 := fewTo_mono b d o (j := 0) (k := j) (by omega)
  have h3 : fewTo b d o 0 = 0 := rfl
  omega
/-- What behind j dirty ones counts as accepted. -/
def takenF (b d x1 a r x2 t j : Int) : Int := if j ≤ a then sets (b - x1) x2 else if again a r j then few (b - x1) (d - j) x2 (t - j) else 0
theorem takenF_le {b d x1 a r x2 t j : Int} (h : j ≤ a) : takenF b d x1 a r x2 t j = sets (b - x1) x2 := by unfold takenF; rw [if_pos h]
theorem takenF_again {b d x1 a r x2 t j : Int} (h : ¬ j ≤ a) (h2 : again a r j = true) : takenF b d x1 a r x2 t j = few (b - x1) (d - j) x2 (t - j) := by unfold takenF; rw [if_neg h, h2]; rfl
theorem takenF_zero {b d x1 a r x2 t j : Int} (h : ¬ j ≤ a) (h2 : again a r j = false) : takenF b d x1 a r x2 t j = 0 := by unfold takenF; rw [if_neg h, h2]; rfl
theorem takenF_nonneg (b d x1 a r x2 t j : Int) : 0 ≤ takenF b d x1 a r x2 t j := by
  unfold takenF
  split
  · exact sets_nonneg _ _
  · split
    · exact few_nonneg
    · exact Int.le_refl _
theorem ways_takenF {b d x1 a r x2 t : Int} (hb0 : 0 ≤ b) (hb : b ≤ 36) (hd0 : 0 ≤ d) (hd : d ≤ b) (h1 : 0 ≤ x1) (h2 : 0 ≤ x2) (h12 : x1 + x2 ≤ b) {j : Nat} (hj : (j : Int) ≤ x1) : ways b d x1 j * takenF b d x1 a r x2 t j ≤ 150094635296999121 := by
  have k0 := two_sets (b := b) (o := x1) (s := x2) hb0 hb h1 (by omega)
  have kw := ways_le_sets (b := b) (d := d) (o := x1) hd0 hd h1 hj
  have kn := ways_nonneg b d x1 j
  have ks := sets_nonneg (b - x1) x2
  have km : ways b d x1 j * sets (b - x1) x2 ≤ sets b x1 * sets (b - x1) x2 := Int.mul_le_mul_of_nonneg_right kw ks
  by_cases c1 : d - j < 0
  · have z : ways b d x1 j = 0 := by unfold ways; rw [sets_none (n := d) (k := j) (by omega)]; omega
    rw [z]; omega
  · by_cases c2 : b - x1 < d - j
    · have z : ways b d x1 j = 0 := by unfold ways; rw [sets_none (n := b - d) (k := x1 - j) (by omega)]; omega
      rw [z]; omega
    · have kf : takenF b d x1 a r x2 t j ≤ sets (b - x1) x2 := by
        unfold takenF
        split
        · exact Int.le_refl _
        · split
          · exact few_any_le (by omega) (by omega) h2
          · exact ks
      have := Int.mul_le_mul_of_nonneg_left kf kn
      omega
def taken (b d x1 a r x2 t : Int) : Int := sum b d x1 (takenF b d x1 a r x2 t)
theorem taken_nonneg {b d x1 a r x2 t : Int} : 0 ≤ taken b d x1 a r x2 t := sumTo_nonneg (n := (x1 + 1).toNat) (fun j _ => takenF_nonneg b d x1 a r x2 t j) _ (Nat.le_refl _)
theorem taken_le {b d x1 a r x2 t : Int} (hb0 : 0 ≤ b) (hb : b ≤ 36) (hd0 : 0 ≤ d) (hd : d ≤ b) (h1 : 0 ≤ x1) (h2 : 0 ≤ x2) (h12 : x1 + x2 ≤ b) : taken b d x1 a r x2 t ≤ 5553501505988967477 := by
  have k := sumTo_le (b := b) (d := d) (o := x1) (f := takenF b d x1 a r x2 t) (n := (x1 + 1).toNat) (B := 150094635296999121) (fun j _ => ways_takenF hb0 hb hd0 hd h1 h2 h12 (by omega)) _ (Nat.le_refl _)
  unfold taken sum
  omega
end Pure

set_option maxHeartbeats 2000000 in
set_option maxRecDepth 100000 in
/-- **taken's function**. -/
theorem takenOne_any {M T C : Nat} (X Y Z D : Nat) (b d x1 a r x2 t o : Int) (j : Nat) (hb0 : 0 ≤ b) (hb : b ≤ 36) (hd0 : 0 ≤ d) (hd : d ≤ b) (h1 : 0 ≤ x1) (h2 : 0 ≤ x2) (h12 : x1 + x2 ≤ b) (hj : (j : Int) ≤ x1) (ha0 : 0 ≤ a) (ht0 : 0 ≤ t) (ht : t ≤ 100) (w : World) (hw : Cnt w M T C)
    (hX : w.heap[X]? = some (.cells #[.int .i64 x1, .int .i64 a, .int .i64 r, .int .i64 x2, .int .i64 t] 71))
    (hY : w.heap[Y]? = some (.cells #[.int .i64 (Pure.sets (b - x1) x2)] 3))
    (hZ : w.heap[Z]? = some (.cells #[.int .i64 (b - x1), .int .i64 0, .int .i64 0, setsV T C] 82))
    (hD : w.heap[D]? = some (.cells #[.int .i64 d] 3)) :
    Calls Tryz.prog 87 #[.agg #[.int .i64 o, .int .i64 j], .pointer (some ⟨X, 0, none⟩), .pointer (some ⟨Y, 0, none⟩), .pointer (some ⟨Z, 0, none⟩), .pointer (some ⟨D, 0, none⟩)] w fun e w' => e = .returned (.int .i64 (Pure.takenF b d x1 a r x2 t j)) ∧ Step M w w' := by
  have hs := (Step.refl hw.memo).alloc (.cells #[.int .i64 o, .int .i64 j] 37)
  have hu := heap_up hX (.cells #[.int .i64 o, .int .i64 j] 37)
  have hv := heap_up hY (.cells #[.int .i64 o, .int .i64 j] 37)
  have hz := heap_up hZ (.cells #[.int .i64 o, .int .i64 j] 37)
  have hq := heap_up hD (.cells #[.int .i64 o, .int .i64 j] 37)
  have e0 := heap_cell hu (j := 0) rfl
  have e1 := heap_cell hu (j := 1) rfl
  have e2 := heap_cell hu (j := 2) rfl
  have e3 := heap_cell hu (j := 3) rfl
  have e4 := heap_cell hu (j := 4) rfl
  have y0 := heap_cell hv (j := 0) rfl
  have z0 := heap_cell hz (j := 0) rfl
  have z1 := heap_cell hz (j := 1) rfl
  have z2 := heap_cell hz (j := 2) rfl
  have z3 := heap_cell hz (j := 3) rfl
  have q0 := heap_cell hq (j := 0) rfl
  have c0 := heap_cell (heap_top w (.cells #[.int .i64 o, .int .i64 j] 37) rfl) (j := 1) rfl
  have HS := Lib.hid hs
  have HW := Lib.hid (hw.step hs)
  clear hX hY hZ hD hu hv hz hq hs hw
  by_cases hja : (j : Int) ≤ a
  · clear z0 z1 z2 z3 q0
    go_enter Tryz.func87, Tryz.ntmps87
    go_wp2_with fail
    go_ret
    exact ⟨ret_int (Pure.takenF_le hja).symm, HS.out⟩
  · cases hag : Pure.again a r j with
    | true =>
      have HAG := Lib.hid hag
      clear hag
      go_enter Tryz.func87, Tryz.ntmps87
      go_wp2_with (first
        | (go_at_call 88; refine (again_any _ _ _ _ _ _ _ _).mono ?_; rintro e w2 ⟨rfl, hb2⟩; rw [HAG.out]; have g0 := below_cell hb2 e0; have g3 := below_cell hb2 e3; have g4 := below_cell hb2 e4; have m0 := below_cell hb2 z0; have m1 := below_cell hb2 z1; have m2 := below_cell hb2 z2; have m3 := below_cell hb2 z3; have n0 := below_cell hb2 q0; have n1 := below_cell hb2 c0; have HB2 := Lib.hid hb2; clear hb2)
        | (go_at_call 84; refine (few_any (M := M) (b - x1) 0 0 (d - j) x2 (t - j) (by omega) (by omega) (by omega) (by omega) (by omega) h2 (by omega) _ (HW.out.step (Step.of_below HB2.out HW.out.memo))).mono ?_; rintro e w3 ⟨rfl, hs3⟩; have HS3 := Lib.hid hs3; clear hs3))
      go_ret
      exact ⟨ret_int (Pure.takenF_again (j := (j : Int)) (by omega) HAG.out).symm, (HS.out.trans (Step.of_below HB2.out HW.out.memo)).trans HS3.out⟩
    | false =>
      have HAG := Lib.hid hag
      clear hag z0 z1 z2 z3 q0
      go_enter Tryz.func87, Tryz.ntmps87
      go_wp2_with (go_at_call 88; refine (again_any _ _ _ _ _ _ _ _).mono ?_; rintro e w2 ⟨rfl, hb2⟩; rw [HAG.out]; have HB2 := Lib.hid hb2; clear hb2)
      go_ret
      exact ⟨ret_int (Pure.takenF_zero (j := (j : Int)) (by omega) HAG.out).symm, HS.out.trans (Step.of_below HB2.out HW.out.memo)⟩

set_option maxHeartbeats 4000000 in
set_option maxRecDepth 100000 in
/-- **taken**. -/
theorem taken_any {M T C : Nat} (b lo hi d x1 a r x2 t : Int) (hb0 : 0 ≤ b) (hb : b ≤ 36) (hd0 : 0 ≤ d) (hd : d ≤ b) (h1 : 0 ≤ x1) (h2 : 0 ≤ x2) (h12 : x1 + x2 ≤ b) (ha0 : 0 ≤ a) (ht0 : 0 ≤ t) (ht : t ≤ 100) (w : World) (hw : Cnt w M T C) :
    Calls Tryz.prog 65 #[holdV b lo hi T C, doubleV x1 a r x2 t, .int .i64 d] w fun e w' => e = .returned (partV (Pure.taken b d x1 a r x2 t) (Pure.sets b x1 * Pure.sets (b - x1) x2)) ∧ Step M w w' := by
  go_enter Tryz.func65, Tryz.ntmps65
  go_wp2_with fail
  obtain ⟨W1, hW1⟩ : ∃ W1, ((((w.alloc (.cells #[.int .i64 b, .int .i64 lo, .int .i64 hi, setsV T C] 82)).alloc (.cells #[.int .i64 x1, .int .i64 a, .int .i64 r, .int .i64 x2, .int .i64 t] 71)).alloc (.cells #[.int .i64 d] 3)).alloc (.cells #[.int .i64 0, .int .i64 0] 31)).alloc (.cells #[.int .i64 (b - x1), .int .i64 0, .int .i64 0, setsV T C] 82) = W1 := ⟨_, rfl⟩
  have hS1 : Step M w W1 := by rw [← hW1]; exact (((((Step.refl hw.memo).alloc _).alloc _).alloc _).alloc _).alloc _
  have hh1 : W1.heap[w.heap.size]? = some (.cells #[.int .i64 b, .int .i64 lo, .int .i64 hi, setsV T C] 82) := by rw [← hW1]; exact heap_up (heap_up (heap_up (heap_up (heap_top _ _ rfl) _) _) _) _
  have hd1 : W1.heap[w.heap.size + 1]? = some (.cells #[.int .i64 x1, .int .i64 a, .int .i64 r, .int .i64 x2, .int .i64 t] 71) := by rw [← hW1]; exact heap_up (heap_up (heap_up (heap_top _ _ (by simp)) _) _) _
  have hq1 : W1.heap[w.heap.size + 1 + 1]? = some (.cells #[.int .i64 d] 3) := by rw [← hW1]; exact heap_up (heap_up (heap_top _ _ (by simp)) _) _
  have hr1 : W1.heap[w.heap.size + 1 + 1 + 1]? = some (.cells #[.int .i64 0, .int .i64 0] 31) := by rw [← hW1]; exact heap_up (heap_top _ _ (by simp)) _
  have hz1 : W1.heap[w.heap.size + 1 + 1 + 1 + 1]? = some (.cells #[.int .i64 (b - x1), .int .i64 0, .int .i64 0, setsV T C] 82) := by rw [← hW1]; exact heap_top _ _ (by simp)
  rw [hW1]
  have HN := Lib.hid hw.lt.1
  have HW1 := Lib.hid (hw.step hS1)
  have HS1 := Lib.hid hS1
  refine (draws_any (b - x1) 0 0 x2 (by omega) _ HW1.out).mono ?_
  rintro e W2 ⟨rfl, hs2⟩
  have HH2 := Lib.hid (heap_up (hs2.heap hh1 (by have := HN.out; omega)) (.cells #[.int .i64 (Pure.sets (b - x1) x2)] 3))
  have HD2 := Lib.hid (heap_up (hs2.heap hd1 (by have := HN.out; omega)) (.cells #[.int .i64 (Pure.sets (b - x1) x2)] 3))
  have HQ2 := Lib.hid (heap_up (hs2.heap hq1 (by have := HN.out; omega)) (.cells #[.int .i64 (Pure.sets (b - x1) x2)] 3))
  have HR2 := Lib.hid (heap_up (hs2.heap hr1 (by have := HN.out; omega)) (.cells #[.int .i64 (Pure.sets (b - x1) x2)] 3))
  have HZ2 := Lib.hid (heap_up (hs2.heap hz1 (by have := HN.out; omega)) (.cells #[.int .i64 (Pure.sets (b - x1) x2)] 3))
  have HY2 : Hid ((W2.alloc (.cells #[.int .i64 (Pure.sets (b - x1) x2)] 3)).heap[W2.heap.size]? = some (.cells #[.int .i64 (Pure.sets (b - x1) x2)] 3)) := Lib.hid (heap_top _ _ rfl)
  have HS2 := Lib.hid ((hS1.trans hs2).alloc (.cells #[.int .i64 (Pure.sets (b - x1) x2)] 3))
  have HW2 := Lib.hid (hw.step HS2.out)
  have HNY := Lib.hid (cells_not_memo HW2.out.memo HY2.out)
  have g0 := heap_cell HH2.out (j := 0) rfl
  have g1 := heap_cell HH2.out (j := 1) rfl
  have g2 := heap_cell HH2.out (j := 2) rfl
  have g3 := heap_cell HH2.out (j := 3) rfl
  have d0 := heap_cell HD2.out (j := 0) rfl
  have q0 := heap_cell HQ2.out (j := 0) rfl
  clear hW1 hS1 hh1 hd1 hq1 hr1 hz1 hw hs2
  go_wp2_with fail
  have k0 : 0 ≤ Pure.taken b d x1 a r x2 t := Pure.taken_nonneg
  have k1 : Pure.taken b d x1 a r x2 t ≤ 5553501505988967477 := Pure.taken_le hb0 hb hd0 hd h1 h2 h12
  have k2 : 0 < Pure.sets b x1 := Pure.sets_pos h1 (by omega)
  have k3 : 0 < Pure.sets (b - x1) x2 := Pure.sets_pos h2 (by omega)
  have k4 : 0 < Pure.sets b x1 * Pure.sets (b - x1) x2 := Int.mul_pos k2 k3
  have k5 : Pure.sets b x1 * Pure.sets (b - x1) x2 ≤ 150094635296999121 := Pure.two_sets hb0 hb h1 (by omega)
  have HK := Lib.hid (And.intro k0 (And.intro k1 (And.intro k4 k5)))
  have HWR : Hid (IntKind.i64.wrap (Pure.sets b x1 * Pure.sets (b - x1) x2) = Pure.sets b x1 * Pure.sets (b - x1) x2) := Lib.hid (wrap_small _ (by omega) (by omega))
  clear k0 k1 k2 k3
  refine (sum_any b lo hi d x1 hb0 hb (by omega) (by omega) (by omega) h1 (by omega) 87 #[.pointer (some ⟨w.heap.size + 1, 0, none⟩), .pointer (some ⟨W2.heap.size, 0, none⟩), .pointer (some ⟨w.heap.size + 1 + 1 + 1 + 1, 0, none⟩), .pointer (some ⟨w.heap.size + 1 + 1, 0, none⟩)] (Pure.takenF b d x1 a r x2 t) _ HW2.out (enters_of Tryz.func87 (by kernel_rfl) rfl) (fun W hs j hj => ?_) (fun j hj => ⟨Pure.takenF_nonneg b d x1 a r x2 t j, Int.le_trans (Pure.ways_takenF hb0 hb hd0 hd h1 h2 h12 hj) (by decide)⟩)).mono ?_
  · exact takenOne_any (w.heap.size + 1) W2.heap.size (w.heap.size + 1 + 1 + 1 + 1) (w.heap.size + 1 + 1) b d x1 a r x2 t x1 j hb0 hb hd0 hd h1 h2 h12 hj ha0 ht0 ht W (HW2.out.step hs) (hs.heap HD2.out (by have := HN.out; omega)) (hs.heap HY2.out HNY.out) (hs.heap HZ2.out (by have := HN.out; omega)) (hs.heap HQ2.out (by have := HN.out; omega))
  · rintro e W3 ⟨rfl, hs3⟩
    have hh3 := hs3.heap HH2.out (by have := HN.out; omega)
    have hd3 := hs3.heap HD2.out (by have := HN.out; omega)
    have hy3 := hs3.heap HY2.out HNY.out
    have HR3 := Lib.hid (hs3.heap HR2.out (by have := HN.out; omega))
    have HS3 := Lib.hid (HS2.out.trans hs3)
    have HW3 := Lib.hid (HW2.out.step hs3)
    have HT0 : Hid (W3.drew.cell? ⟨w.heap.size, 0, none⟩ = some (.int .i64 b) ∧ W3.drew.cell? ⟨w.heap.size, 1, none⟩ = some (.int .i64 lo) ∧ W3.drew.cell? ⟨w.heap.size, 2, none⟩ = some (.int .i64 hi) ∧ W3.drew.cell? ⟨w.heap.size, 3, none⟩ = some (setsV T C) ∧ W3.drew.cell? ⟨w.heap.size + 1, 0, none⟩ = some (.int .i64 x1) ∧ W3.drew.cell? ⟨W2.heap.size, 0, none⟩ = some (.int .i64 (Pure.sets (b - x1) x2))) := Lib.hid ⟨heap_cell hh3 (j := 0) rfl, heap_cell hh3 (j := 1) rfl, heap_cell hh3 (j := 2) rfl, heap_cell hh3 (j := 3) rfl, heap_cell hd3 (j := 0) rfl, heap_cell hy3 (j := 0) rfl⟩
    have HTT : Hid (∀ u v : World, (u.cell? ⟨w.heap.size, 0, none⟩ = some (.int .i64 b) ∧ u.cell? ⟨w.heap.size, 1, none⟩ = some (.int .i64 lo) ∧ u.cell? ⟨w.heap.size, 2, none⟩ = some (.int .i64 hi) ∧ u.cell? ⟨w.heap.size, 3, none⟩ = some (setsV T C) ∧ u.cell? ⟨w.heap.size + 1, 0, none⟩ = some (.int .i64 x1) ∧ u.cell? ⟨W2.heap.size, 0, none⟩ = some (.int .i64 (Pure.sets (b - x1) x2))) → Step M u v → (v.cell? ⟨w.heap.size, 0, none⟩ = some (.int .i64 b) ∧ v.cell? ⟨w.heap.size, 1, none⟩ = some (.int .i64 lo) ∧ v.cell? ⟨w.heap.size, 2, none⟩ = some (.int .i64 hi) ∧ v.cell? ⟨w.heap.size, 3, none⟩ = some (setsV T C) ∧ v.cell? ⟨w.heap.size + 1, 0, none⟩ = some (.int .i64 x1) ∧ v.cell? ⟨W2.heap.size, 0, none⟩ = some (.int .i64 (Pure.sets (b - x1) x2)))) := Lib.hid (fun u v h k => by
      have hn := HN.out
      exact ⟨k.cell h.1 (by dsimp only; omega), k.cell h.2.1 (by dsimp only; omega), k.cell h.2.2.1 (by dsimp only; omega), k.cell h.2.2.2.1 (by dsimp only; omega), k.cell h.2.2.2.2.1 (by dsimp only; omega), k.cell h.2.2.2.2.2 HNY.out⟩)
    have HTC : Hid (∀ (u : World) (i j : Nat) (v : Value), (u.cell? ⟨w.heap.size, 0, none⟩ = some (.int .i64 b) ∧ u.cell? ⟨w.heap.size, 1, none⟩ = some (.int .i64 lo) ∧ u.cell? ⟨w.heap.size, 2, none⟩ = some (.int .i64 hi) ∧ u.cell? ⟨w.heap.size, 3, none⟩ = some (setsV T C) ∧ u.cell? ⟨w.heap.size + 1, 0, none⟩ = some (.int .i64 x1) ∧ u.cell? ⟨W2.heap.size, 0, none⟩ = some (.int .i64 (Pure.sets (b - x1) x2))) → i = w.heap.size + 1 + 1 + 1 → ((u.setCell ⟨i, j, none⟩ v).cell? ⟨w.heap.size, 0, none⟩ = some (.int .i64 b) ∧ (u.setCell ⟨i, j, none⟩ v).cell? ⟨w.heap.size, 1, none⟩ = some (.int .i64 lo) ∧ (u.setCell ⟨i, j, none⟩ v).cell? ⟨w.heap.size, 2, none⟩ = some (.int .i64 hi) ∧ (u.setCell ⟨i, j, none⟩ v).cell? ⟨w.heap.size, 3, none⟩ = some (setsV T C) ∧ (u.setCell ⟨i, j, none⟩ v).cell? ⟨w.heap.size + 1, 0, none⟩ = some (.int .i64 x1) ∧ (u.setCell ⟨i, j, none⟩ v).cell? ⟨W2.heap.size, 0, none⟩ = some (.int .i64 (Pure.sets (b - x1) x2)))) := Lib.hid (fun u i j v h k => by
      have hy : W2.heap.size ≠ w.heap.size + 1 + 1 + 1 := fun e => by
        have h1 := HY2.out
        rw [e, HR2.out] at h1
        simp at h1
      exact ⟨(World.cell?_setCell_far u _ _ v (by dsimp only; omega)).trans h.1, (World.cell?_setCell_far u _ _ v (by dsimp only; omega)).trans h.2.1, (World.cell?_setCell_far u _ _ v (by dsimp only; omega)).trans h.2.2.1, (World.cell?_setCell_far u _ _ v (by dsimp only; omega)).trans h.2.2.2.1, (World.cell?_setCell_far u _ _ v (by dsimp only; omega)).trans h.2.2.2.2.1, (World.cell?_setCell_far u _ _ v (by dsimp only; omega)).trans h.2.2.2.2.2⟩)
    clear hh3 hd3 hy3 g0 g1 g2 g3 d0 q0 hs3
    go_wp2_with fail
    go_region_held3 (fun v => (v.cell? ⟨w.heap.size, 0, none⟩ = some (.int .i64 b) ∧ v.cell? ⟨w.heap.size, 1, none⟩ = some (.int .i64 lo) ∧ v.cell? ⟨w.heap.size, 2, none⟩ = some (.int .i64 hi) ∧ v.cell? ⟨w.heap.size, 3, none⟩ = some (setsV T C) ∧ v.cell? ⟨w.heap.size + 1, 0, none⟩ = some (.int .i64 x1) ∧ v.cell? ⟨W2.heap.size, 0, none⟩ = some (.int .i64 (Pure.sets (b - x1) x2))))
      (first | assumption | exact HT0.out | exact HTT.out _ _ (by assumption) (by assumption) | exact HTC.out _ _ _ _ (HTC.out _ _ _ _ (by assumption) rfl) rfl)
      (first
        | (go_at_call 39; refine (draws_any b lo hi x1 hb _ (HW3.out.drew)).mono ?_; rintro e W4 ⟨rfl, hs4⟩; have hr4 := hs4.heap (w := W3.drew) HR3.out (by have := HN.out; omega); have HR4 := Lib.hid hr4; have HS4 := Lib.hid (HS3.out.drew.trans hs4); clear hr4)
        | (go_at_call 38; rw [HWR.out]; refine (part_any _ _ HK.out.1 (by have := HK.out; omega) HK.out.2.2.1 (by have := HK.out; omega) _).mono ?_; rintro e W5 ⟨rfl, hb5⟩; have hr5 := (hb5.block _ (Array.getElem?_eq_some_iff.1 HR4.out).1).trans HR4.out; have hs5 := Step.of_below hb5 HS4.out.memo; have r0 := heap_cell hr5 (j := 0) rfl; have r1 := heap_cell hr5 (j := 1) rfl; have f0 := heap_frozen hr5 0; have f1 := heap_frozen hr5 1; have HS5 := Lib.hid (HS4.out.trans hs5); clear hr5 hb5))
    all_goals
      go_wp2_with fail
      refine bodyPost_ret (v := partV (Pure.taken b d x1 a r x2 t) (Pure.sets b x1 * Pure.sets (b - x1) x2)) (by simp [results, Tryz.results65, go_sem, r0, r1]) rfl ⟨rfl, ?_⟩
      exact (HS5.out.setCell (p := ⟨w.heap.size + 1 + 1 + 1, 0, none⟩) (by simp; omega) HN.out _).setCell (p := ⟨w.heap.size + 1 + 1 + 1, 1, none⟩) (by simp; omega) HN.out _

end Go.Proofs.YtjegkkpdemoldaaGreatDoor
