/-
  The contracts of a cargo at work: work, draws, ways.
-/
import Derived.Test.YtjegkkpdemoldaaGreatDoorCount
import Derived.Test.YtjegkkpdemoldaaGreatDoorWithin
import Derived.RegionTactic
import Derived.Deep.RegionHeld3
namespace Go.Proofs.YtjegkkpdemoldaaGreatDoor
open Go.RowKit

abbrev holdV (b lo hi : Int) (T C : Nat) : Value := .agg #[.int .i64 b, .int .i64 lo, .int .i64 hi, setsV T C]

namespace Pure
/-- The ways of a draw. -/
def ways (b d o f : Int) : Int := sets d f * sets (b - d) (o - f)
theorem sets_neg {n k : Int} (h : n < 0) : sets n k = 0 := by
  apply sets_none
  omega
theorem sets_pow {n k : Int} (_h : 0 ≤ n) : sets n k ≤ 2 ^ n.toNat := by
  unfold sets
  split
  · exact Int.le_of_lt (Int.pow_pos (by omega))
  · have := ch_le_pow n.toNat k.toNat
    have h2 : ((ch n.toNat k.toNat : Nat) : Int) ≤ ((2 ^ n.toNat : Nat) : Int) := by omega
    simpa using h2
theorem ways_nonneg (b d o f : Int) : 0 ≤ ways b d o f := Int.mul_nonneg (sets_nonneg _ _) (sets_nonneg _ _)
theorem ways_le {b d o f : Int} (_h : b ≤ 36) : ways b d o f ≤ 68719476736 := by
  unfold ways
  by_cases h1 : d < 0
  · rw [sets_neg h1]; omega
  · by_cases h2 : b - d < 0
    · rw [sets_neg h2]; omega
    · have e1 := sets_pow (n := d) (k := f) (by omega)
      have e2 := sets_pow (n := b - d) (k := o - f) (by omega)
      have e3 := Int.mul_le_mul e1 e2 (sets_nonneg _ _) (Int.le_of_lt (Int.pow_pos (by omega)))
      rw [← Int.pow_add] at e3
      have e4 : (2 : Int) ^ (d.toNat + (b - d).toNat) ≤ 2 ^ 36 := by
        have : (2 : Nat) ^ (d.toNat + (b - d).toNat) ≤ 2 ^ 36 := Nat.pow_le_pow_right (by omega) (by omega)
        exact_mod_cast this
      have e5 : (2 : Int) ^ 36 = 68719476736 := by decide
      omega
end Pure

set_option maxHeartbeats 1000000 in
set_option maxRecDepth 100000 in
/-- **draws**. -/
theorem draws_any {M T C : Nat} (b lo hi o : Int) (hb : b ≤ 36) (w : World) (hw : Cnt w M T C) :
    Calls Tryz.prog 39 #[holdV b lo hi T C, .int .i64 o] w fun e w' => e = .returned (.int .i64 (Pure.sets b o)) ∧ Step M w w' := by
  have hs := (Step.refl hw.memo).alloc (.cells #[.int .i64 b, .int .i64 lo, .int .i64 hi, setsV T C] 82)
  have HS := Lib.hid hs
  have HW := Lib.hid hw
  clear hs hw
  go_enter Tryz.func39, Tryz.ntmps39
  go_wp2_with fail
  refine (count_calls hb (HW.out.alloc _)).mono ?_
  rintro e w' ⟨rfl, hs2⟩
  have HS2 := Lib.hid hs2
  clear hs2
  go_wp2_with fail
  go_ret
  exact ⟨rfl, HS.out.trans HS2.out⟩

/-- What the cells of a class of worlds hold. -/
theorem among_cell {M : Nat} {W : World} (hM : Memo W M) {a : Addr} {v : Value} (h : W.cell? a = some v) (x : Among (Step M W)) : x.val.cell? a = some v :=
  x.ok.cell h (cell_not_map hM h)

set_option maxHeartbeats 1000000 in
set_option maxRecDepth 100000 in
/-- **ways**. -/
theorem ways_any {M T C : Nat} (b lo hi d o f : Int) (hb0 : 0 ≤ b) (hb : b ≤ 36) (hd0 : -36 ≤ d) (hd : d ≤ 36) (hbd : b - d ≤ 36) (ho0 : 0 ≤ o) (ho : o ≤ 36) (hf0 : 0 ≤ f) (hf : f ≤ 36) (w : World) (hw : Cnt w M T C) :
    Calls Tryz.prog 60 #[holdV b lo hi T C, .int .i64 d, .agg #[.int .i64 o, .int .i64 f]] w fun e w' => e = .returned (.int .i64 (Pure.ways b d o f)) ∧ Step M w w' := by
  go_enter Tryz.func60, Tryz.ntmps60
  go_wp2_with fail
  obtain ⟨W1, hW1⟩ : ∃ W1, (w.alloc (.cells #[.int .i64 b, .int .i64 lo, .int .i64 hi, setsV T C] 82)).alloc (.cells #[.int .i64 o, .int .i64 f] 37) = W1 := ⟨_, rfl⟩
  have HS : Hid (Step M w W1) := by rw [← hW1]; exact Lib.hid (((Step.refl hw.memo).alloc _).alloc _)
  have HW : Hid (Cnt W1 M T C) := Lib.hid (hw.step HS.out)
  have e0 : W1.cell? ⟨w.heap.size, 0, none⟩ = some (.int .i64 b) := by rw [← hW1]; exact cell_up (cells_top _ _ _ rfl 0) _
  have e3 : W1.cell? ⟨w.heap.size, 3, none⟩ = some (setsV T C) := by rw [← hW1]; exact cell_up (cells_top _ _ _ rfl 3) _
  have g0 : W1.cell? ⟨w.heap.size + 1, 0, none⟩ = some (.int .i64 o) := by rw [← hW1]; exact cells_top _ _ _ (by simp) 0
  have g1 : W1.cell? ⟨w.heap.size + 1, 1, none⟩ = some (.int .i64 f) := by rw [← hW1]; exact cells_top _ _ _ (by simp) 1
  rw [hW1]
  clear hW1 hw
  have x0 := among_cell HW.out.memo e0
  have x3 := among_cell HW.out.memo e3
  have y0 := among_cell HW.out.memo g0
  have y1 := among_cell HW.out.memo g1
  clear e0 e3 g0 g1
  have HCall : Hid (∀ (x : Among (Step M W1)) (n k : Int), n ≤ 36 → Calls Tryz.prog 83 #[.int .i64 n, .int .i64 k, .pointer (some ⟨T, 0, none⟩), .pointer (some ⟨C, 0, none⟩)] x.val fun e w' => e = .returned (.int .i64 (Pure.sets n k)) ∧ ∃ y : Among (Step M W1), w' = y.val) :=
    Lib.hid (fun x n k hn => calls_class ((count_calls hn (HW.out.step x.ok)).mono fun e w' h => ⟨h.1, x.ok.trans h.2⟩))
  have HSt : Hid (Step M W1 W1.drew) := Lib.hid (Step.refl HW.out.memo).drew
  have hne : Nonempty (Among (Step M W1)) := ⟨⟨_, HSt.out⟩⟩
  have hs1 := Pure.sets_nonneg d f
  have hs2 := Pure.sets_nonneg (b - d) (o - f)
  have hs3 : Pure.sets d f * Pure.sets (b - d) (o - f) ≤ 68719476736 := Pure.ways_le (o := o) (f := f) hb
  have hs4 : 0 ≤ Pure.sets d f * Pure.sets (b - d) (o - f) := Pure.ways_nonneg b d o f
  refine wp_region_class (Step M W1) (by kernel_rfl) (by kernel_rfl) HSt.out ?_
  repeat (go_big_quiet_step ((go_at_call 83; exact HCall.out _ _ _ (by omega))))
  refine wpQuiet_nil ?_
  intro w2 hx
  have hS2 := among_out hx
  clear hx
  have HS2 := Lib.hid hS2
  clear hS2 hne x0 x3 y0 y1
  go_wp2_with fail
  go_ret
  exact ⟨rfl, HS.out.trans HS2.out⟩

theorem Cnt.set {w : World} {M T C : Nat} (h : Cnt w M T C) {p : Addr} (hT : p.block ≠ T) (hC : p.block ≠ C) (hM : p.block ≠ M) (u : Value) : Cnt (w.setCell p u) M T C where
  told := (World.cell?_setCell_far _ _ _ _ hT).trans h.told
  self := (World.cell?_setCell_far _ _ _ _ hC).trans h.self
  memo := h.memo.kept (Below.heap_setCell _ _ _ _ (fun e => hM e.symm))
theorem frozen_top (w : World) (arr : Array Value) (t : TypeId) {b : Nat} (hb : b = w.heap.size) (j : Nat) : (w.alloc (.cells arr t)).frozen? ⟨b, j, none⟩ = false := by
  subst hb
  have h := (MapKept.heap_alloc w (.cells arr t)).1
  unfold World.frozen?
  simp only [h]
  simp
theorem grown_cell {w w' : World} (hg : w.drew.grownBy w' none) {a : Addr} {v : Value} (h : w.cell? a = some v) : w'.cell? a = some v := hg.cell h (by simp)
theorem grown_frozen {w w' : World} (hg : w.drew.grownBy w' none) {a : Addr} {v : Value} (h : w.cell? a = some v) (hf : w.frozen? a = false) : w'.frozen? a = false :=
  (World.frozen?_of_block (hg.block a.block (World.block_lt_of_cell? w a h) (by simp))).trans hf

set_option maxHeartbeats 1000000 in
set_option maxRecDepth 100000 in
/-- **work**: a cargo at work has a memo of its own. -/
theorem work_any (b lo hi : Int) (w : World) :
    Calls Tryz.prog 35 #[.agg #[.int .i64 b, .int .i64 lo, .int .i64 hi]] w fun e w' => ∃ M T C : Nat, e = .returned (holdV b lo hi T C) ∧ w.heap.size ≤ M ∧ Cnt w' M T C ∧ Below w.heap.size w w' := by
  go_enter Tryz.func35, Tryz.ntmps35
  go_wp2_with fail
  obtain ⟨W1, hW1⟩ : ∃ W1, (w.alloc (.cells #[.int .i64 b, .int .i64 lo, .int .i64 hi] 28)).alloc (.cells #[.int .i64 0, .int .i64 0, .int .i64 0, .nilFunc] 82) = W1 := ⟨_, rfl⟩
  have hB1 : Below w.heap.size w W1 := by rw [← hW1]; exact ((Below.refl _ _).alloc (Nat.le_refl _) _).alloc (by simp) _
  have hsz : W1.heap.size = w.heap.size + 2 := by rw [← hW1]; simp
  have e0 : ∀ j v, (#[Value.int .i64 b, .int .i64 lo, .int .i64 hi])[j]? = some v → W1.cell? ⟨w.heap.size, j, none⟩ = some v := by rw [← hW1]; intro j v h; exact cell_up ((cells_top _ _ _ rfl j).trans h) _
  have g0 : ∀ j v, (#[Value.int .i64 0, .int .i64 0, .int .i64 0, .nilFunc])[j]? = some v → W1.cell? ⟨w.heap.size + 1, j, none⟩ = some v := by rw [← hW1]; intro j v h; exact (cells_top _ _ _ (by simp) j).trans h
  have f0 : ∀ j, W1.frozen? ⟨w.heap.size + 1, j, none⟩ = false := by rw [← hW1]; intro j; exact frozen_top _ _ _ (by simp) j
  rw [hW1]
  have HB1 := Lib.hid hB1
  have HSZ := Lib.hid hsz
  have E0 := Lib.hid e0
  have G0 := Lib.hid g0
  have F0 := Lib.hid f0
  clear hW1 hB1 hsz e0 g0 f0
  have a0 := E0.out 0 _ rfl
  have a1 := E0.out 1 _ rfl
  have a2 := E0.out 2 _ rfl
  go_region_with ((go_at_call 59; refine (counter_any _).mono ?_; rintro e w2 ⟨M, T, C, rfl, hMw, hc, hg⟩; have hn0 := grown_cell hg (E0.out 0 _ rfl); have hn1 := grown_cell hg (E0.out 1 _ rfl); have hn2 := grown_cell hg (E0.out 2 _ rfl); have hm0 := grown_cell hg (G0.out 0 _ rfl); have hm1 := grown_cell hg (G0.out 1 _ rfl); have hm2 := grown_cell hg (G0.out 2 _ rfl); have hm3 := grown_cell hg (G0.out 3 _ rfl); have hk0 := grown_frozen hg (G0.out 0 _ rfl) (F0.out 0); have hk1 := grown_frozen hg (G0.out 1 _ rfl) (F0.out 1); have hk2 := grown_frozen hg (G0.out 2 _ rfl) (F0.out 2); have hk3 := grown_frozen hg (G0.out 3 _ rfl) (F0.out 3); have HC2 := Lib.hid hc; have HG2 := Lib.hid hg; have HMW := Lib.hid hMw; clear hc hg hMw))
  all_goals
    have hT : w.heap.size + 1 ≠ T := fun e => by have h1 := HC2.out.told; rw [← e, hm0] at h1; cases h1
    have hC : w.heap.size + 1 ≠ C := fun e => by have h1 := HC2.out.self; rw [← e, hm0] at h1; cases h1
    have hM : w.heap.size + 1 ≠ M := cell_not_map HC2.out.memo hm0
    go_wp2_with fail
    have hB2 : Below w.heap.size w w2 := HB1.out.trans ⟨HG2.out.os, HG2.out.tape, HG2.out.output, by have := HG2.out.size; simpa using this, fun k hk => HG2.out.block k (by have := HSZ.out; simp; omega) (by simp)⟩
    refine bodyPost_ret (v := holdV b lo hi T C) (by simp [results, Tryz.results35, go_sem, hm0, hm1, hm2, hm3]) rfl ⟨M, T, C, rfl, Nat.le_trans HB1.out.size HMW.out, (((HC2.out.set hT hC hM _).set hT hC hM _).set hT hC hM _).set hT hC hM _, ?_⟩
    exact (((hB2.setCell (p := ⟨w.heap.size + 1, 0, none⟩) (by simp) _).setCell (p := ⟨w.heap.size + 1, 1, none⟩) (by simp) _).setCell (p := ⟨w.heap.size + 1, 2, none⟩) (by simp) _).setCell (p := ⟨w.heap.size + 1, 3, none⟩) (by simp) _

end Go.Proofs.YtjegkkpdemoldaaGreatDoor
