/-
  The contracts of teeth, hunts, ratio and again.
-/
import Derived.Test.YtacdbjandcdejaaGTake
namespace Go.Proofs.Ytacdbjandcdejaa
open Go.RowKit

namespace Pure
/-- How many teeth a wheel has. -/
def tooth (F : Nat → Int) (x : Int) : Nat := (F (x - 1).toNat).toNat
/-- The teeth of the first k drivers, and driven ones, multiplied. -/
def nm (F L : Nat → Int) : Nat → Nat
  | 0 => 1
  | k + 1 => nm F L k * tooth F (L (k * 2))
def dn (F L : Nat → Int) : Nat → Nat
  | 0 => 1
  | k + 1 => dn F L k * tooth F (L (k * 2 + 1))
end Pure
/-- Wheels, and pairs of them. -/
structure Gears (n : Nat) (F : Nat → Int) (ln : Nat) (L : Nat → Int) : Prop where
  t : n ≤ 8 ∧ ∀ j, j < n → 6 ≤ F j ∧ F j ≤ 120
  l : ln ≤ 3
  p : ∀ j, j < ln → (1 ≤ L (j * 2) ∧ L (j * 2) ≤ n) ∧ 1 ≤ L (j * 2 + 1) ∧ L (j * 2 + 1) ≤ n
theorem Gears.le {n : Nat} {F : Nat → Int} {ln k : Nat} {L : Nat → Int} (h : Gears n F ln L) (hk : k ≤ ln) : Gears n F k L := ⟨h.t, by have := h.l; omega, fun j hj => h.p j (by omega)⟩
theorem gears_of {n : Nat} {F : Nat → Int} {ln : Nat} {L : Nat → Int} (h1 : Pure.teethB n F = true) (h2 : Pure.trainB n ln L = true) : Gears n F ln L ∧ 1 ≤ ln := by
  unfold Pure.trainB at h2
  rw [Bool.and_eq_true, decide_eq_true_eq] at h2
  refine ⟨⟨Pure.teethB_iff.1 h1, by omega, fun j hj => ?_⟩, by omega⟩
  have h3 := Pure.pairsB_iff.1 h2.2 j hj
  unfold Pure.okP Pure.both Pure.freeB at h3
  simp only [Bool.and_eq_true, decide_eq_true_eq] at h3
  exact ⟨h3.2.1.1, h3.2.2.1⟩
/-- A wheel's place and its teeth. -/
theorem Gears.tooth {n : Nat} {F : Nat → Int} {ln : Nat} {L : Nat → Int} (h : Gears n F ln L) {x : Int} (hx : 1 ≤ x ∧ x ≤ n) : ∃ i : Nat, i < n ∧ x = (i : Int) + 1 ∧ F i = (Pure.tooth F x : Int) ∧ 6 ≤ Pure.tooth F x ∧ Pure.tooth F x ≤ 120 := by
  have h1 := h.t.2 (x - 1).toNat (by omega)
  refine ⟨(x - 1).toNat, by omega, by omega, ?_, ?_, ?_⟩ <;> unfold Pure.tooth <;> omega
theorem Gears.tle {n : Nat} {F : Nat → Int} {ln : Nat} {L : Nat → Int} (h : Gears n F ln L) {x : Int} (hx : 1 ≤ x ∧ x ≤ n) : 6 ≤ Pure.tooth F x ∧ Pure.tooth F x ≤ 120 := by
  obtain ⟨_, _, _, _, g1, g2⟩ := h.tooth hx
  exact ⟨g1, g2⟩
theorem Gears.nm {n : Nat} {F : Nat → Int} {ln : Nat} {L : Nat → Int} (h : Gears n F ln L) : ∀ k, k ≤ ln → (1 ≤ Pure.nm F L k ∧ Pure.nm F L k ≤ 120 ^ k) ∧ 1 ≤ Pure.dn F L k ∧ Pure.dn F L k ≤ 120 ^ k
  | 0, _ => by simp [Pure.nm, Pure.dn]
  | k + 1, hk => by
    obtain ⟨⟨h1, h2⟩, h3, h4⟩ := h.nm k (by omega)
    obtain ⟨_, _, _, _, g1, g2⟩ := h.tooth (h.p k (by omega)).1
    obtain ⟨_, _, _, _, g3, g4⟩ := h.tooth (h.p k (by omega)).2
    unfold Pure.nm Pure.dn
    rw [Nat.pow_succ]
    exact ⟨⟨Nat.mul_pos h1 (by omega), Nat.mul_le_mul h2 g2⟩, Nat.mul_pos h3 (by omega), Nat.mul_le_mul h4 g4⟩
theorem pow_most {k : Nat} (h : k ≤ 6) : 120 ^ k ≤ most := Nat.le_trans (Nat.pow_le_pow_right (by decide) h) (by decide)

set_option maxHeartbeats 8000000 in
set_option maxRecDepth 100000 in
theorem teeth_any (B mp : Nat) (a : Option Addr) (n c : Nat) (F : Nat → Int) (ln : Nat) (L : Nat → Int) (x y : Int) (hG : Gears n F ln L) (hx : 1 ≤ x ∧ x ≤ n) (hy : 1 ≤ y ∧ y ≤ n) (w : World) (hB : w.heap[B]? = some (shedB a n c mp)) (hF : NumsAt w a n F) :
    Calls Try.prog 33 #[.pointer (some ⟨B, 0, none⟩), pairV x y] w fun e w' => e = .returned (twoV (Pure.tooth F x : Nat) (Pure.tooth F y : Nat)) ∧ Below w.heap.size w w' := by
  obtain ⟨i1, hi1, rfl, ht1, hj1⟩ := hG.tooth hx
  obtain ⟨i2, hi2, rfl, ht2, hj2⟩ := hG.tooth hy
  clear hj1 hj2
  obtain ⟨p, hp⟩ : ∃ z, Pure.tooth F ((i1 : Int) + 1) = z := ⟨_, rfl⟩
  obtain ⟨q, hq⟩ : ∃ z, Pure.tooth F ((i2 : Int) + 1) = z := ⟨_, rfl⟩
  rw [hp] at ht1 ⊢
  rw [hq] at ht2 ⊢
  obtain ⟨W, hW⟩ : ∃ W, (w.alloc (pairB ((i1 : Int) + 1) ((i2 : Int) + 1))).alloc (twoB 0 0) = W := ⟨_, rfl⟩
  have HB0 : Hid (Below w.heap.size w W) := Lib.hid (by rw [← hW]; exact (below_new _ _).alloc (by simp) _)
  have HX : Hid (W.heap[w.heap.size]? = some (pairB ((i1 : Int) + 1) ((i2 : Int) + 1))) := Lib.hid (by rw [← hW]; exact heap_up (heap_top _ _ rfl) _)
  have HT : Hid (W.heap[w.heap.size + 1]? = some (twoB 0 0)) := Lib.hid (by rw [← hW]; exact heap_top _ _ (by simp))
  have HBB := Lib.hid (heap_lft hB HB0.out)
  obtain ⟨b, off, rfl, g1⟩ := hF i1 hi1
  have g2 := hF.at hi2
  rw [ht1] at g1
  rw [ht2] at g2
  have c1 := below_cell HB0.out g1
  have c2 := below_cell HB0.out g2
  have hn := hG.t.1
  have n1 : (i1 : Int) < n := by omega
  have n2 : (i2 : Int) < n := by omega
  have m1 : IntKind.i64.wrap (i1 : Int) = i1 := IntWalk.i64_in _ (by omega)
  have m2 : IntKind.i64.wrap (i2 : Int) = i2 := IntWalk.i64_in _ (by omega)
  clear hp hq hB hF g1 g2 ht1 ht2 hx hy
  have n01 : ¬ (i1 : Int) < 0 := by omega
  have n02 : ¬ (i2 : Int) < 0 := by omega
  have HC := Lib.hid (And.intro c1 c2)
  have HM := Lib.hid (And.intro (And.intro n1 n2) (And.intro (And.intro m1 m2) (And.intro n01 n02)))
  clear c1 c2 n1 n2 m1 m2 n01 n02 hn
  go_enter Try.func33, Try.ntmps33
  go_upto_region 1 with fail
  try rw [hW]
  clear hW
  go_cut [] from 5 to 25 (fun wx => wx.heap[w.heap.size + 1]? = some (twoB p q) ∧ Below w.heap.size w wx)
  case first =>
    rename_i J K' hJ hK'
    generalize hA : (Act.mk _ _ : Act) = a0
    have m0 : At a0 0 (.pointer (some ⟨B, 0, none⟩)) := by rw [← hA]; rfl
    have m3 : At a0 3 (.pointer (some ⟨w.heap.size, 0, none⟩)) := by rw [← hA]; rfl
    have m4 : At a0 4 (.pointer (some ⟨w.heap.size + 1, 0, none⟩)) := by rw [← hA]; rfl
    have hsz : 25 < a0.tmps.size := by rw [← hA]; exact of_decide_eq_true (by kernel_rfl)
    have hfin : ∀ a' w', Kept (List.range' 5 21) a0 a' → (w'.heap[w.heap.size + 1]? = some (twoB p q) ∧ Below w.heap.size w w') → K' a' w' := by
      intro a' w' hI hL
      refine hK' _ _ (Met.intro (hJ _ _ ⟨a'.tmps.getD 5 undef, a'.tmps.getD 6 undef, a'.tmps.getD 7 undef, a'.tmps.getD 8 undef, a'.tmps.getD 9 undef, a'.tmps.getD 10 undef, a'.tmps.getD 11 undef, a'.tmps.getD 12 undef, a'.tmps.getD 13 undef, a'.tmps.getD 14 undef, a'.tmps.getD 15 undef, a'.tmps.getD 16 undef, a'.tmps.getD 17 undef, a'.tmps.getD 18 undef, a'.tmps.getD 19 undef, a'.tmps.getD 20 undef, a'.tmps.getD 21 undef, a'.tmps.getD 22 undef, a'.tmps.getD 23 undef, a'.tmps.getD 24 undef, a'.tmps.getD 25 undef, hL, hI.eq.trans ?_⟩))
      rw [← hA]
      kernel_rfl
    have hI : Kept (List.range' 5 21) a0 a0 := Kept.refl _ _
    clear hA hJ hK' J
    refine with_pan (fun d _ _ _ _ h => by cases d <;> exact h) ?_
    intro hpan
    refine wp_region_restF (fun j => j == 21) (fun z => z.heap[B]? = some (shedB (some ⟨b, off, none⟩) n c mp) ∧ z.heap[w.heap.size]? = some (pairB ((i1 : Int) + 1) ((i2 : Int) + 1)) ∧ z.cell? ⟨b, off + i1, none⟩ = some (.int .i64 p) ∧ z.cell? ⟨b, off + i2, none⟩ = some (.int .i64 q)) (by kernel_rfl) ?_
    obtain ⟨wz, hwz⟩ : ∃ x, W.drew = x := ⟨_, rfl⟩
    change RestF _ _ _ _ _ _ _ _ (W.drew)
    rw [hwz]
    have hq : Below W.heap.size W wz := by rw [← hwz]; exact (Below.refl _ _).drew
    clear hwz
    have hS := (And.intro (heap_lft HBB.out hq) (And.intro (heap_lft HX.out hq) (And.intro (below_cell hq HC.out.1) (below_cell hq HC.out.2))))
    obtain ⟨⟨n1, n2⟩, ⟨m1, m2⟩, n01, n02⟩ := HM.out
    refine restF_take (k := 0) (d := 5) (v := .pointer (some ⟨B, 0, none⟩)) hI rfl rfl (by kernel_rfl) (Nat.lt_of_le_of_lt (by decide) hsz) (by kernel_rfl) hpan (by kernel_rfl) hS (wanted_free rfl) (fun z hz => by have n0 := hI.at m0 (by kernel_rfl); have e0 := n0; have f0 := n0.eval; unfold At at e0; simp [go_sem, e0]) (fun a' hI' n5' hk => ?_)
    have n5 := n5'
    replace hI := hI'
    clear hk hI' n5'
    obtain ⟨act9, rfl⟩ : ∃ x, x = a' := ⟨_, rfl⟩
    refine restF_take (k := 1) (d := 6) (v := .pointer (some ⟨B, 0, none⟩)) hI rfl rfl (by kernel_rfl) (Nat.lt_of_le_of_lt (by decide) hsz) (by kernel_rfl) hpan (by kernel_rfl) hS (wanted_free rfl) (fun z hz => by have e5 := n5; have f5 := n5.eval; unfold At at e5; simp [go_sem, e5]) (fun a' hI' n6' hk => ?_)
    replace n5 := hk _ _ n5 rfl
    have n6 := n6'
    replace hI := hI'
    clear hk hI' n6'
    obtain ⟨act9, rfl⟩ : ∃ x, x = a' := ⟨_, rfl⟩
    clear n5
    refine restF_take (k := 2) (d := 7) (v := .pointer (some ⟨B, 0, none⟩)) hI rfl rfl (by kernel_rfl) (Nat.lt_of_le_of_lt (by decide) hsz) (by kernel_rfl) hpan (by kernel_rfl) hS (wanted_free rfl) (fun z hz => by have e6 := n6; have f6 := n6.eval; unfold At at e6; simp [go_sem, e6]) (fun a' hI' n7' hk => ?_)
    replace n6 := hk _ _ n6 rfl
    have n7 := n7'
    replace hI := hI'
    clear hk hI' n7'
    obtain ⟨act9, rfl⟩ : ∃ x, x = a' := ⟨_, rfl⟩
    clear n6
    refine restF_take (k := 3) (d := 8) (v := .pointer (some ⟨B, 0, none⟩)) hI rfl rfl (by kernel_rfl) (Nat.lt_of_le_of_lt (by decide) hsz) (by kernel_rfl) hpan (by kernel_rfl) hS (wanted_free rfl) (fun z hz => by have e7 := n7; have f7 := n7.eval; unfold At at e7; simp [go_sem, e7]) (fun a' hI' n8' hk => ?_)
    replace n7 := hk _ _ n7 rfl
    have n8 := n8'
    replace hI := hI'
    clear hk hI' n8'
    obtain ⟨act9, rfl⟩ : ∃ x, x = a' := ⟨_, rfl⟩
    clear n7
    refine restF_take (k := 4) (d := 9) (v := .slice (some ⟨b, off, none⟩) n c) hI rfl rfl (by kernel_rfl) (Nat.lt_of_le_of_lt (by decide) hsz) (by kernel_rfl) hpan (by kernel_rfl) hS (wanted_free rfl) (fun z hz => by have e8 := n8; have f8 := n8.eval; unfold At at e8; have k0 := heap_cell hz.1 (j := 0) rfl; simp [go_sem, e8, k0]) (fun a' hI' n9' hk => ?_)
    replace n8 := hk _ _ n8 rfl
    have n9 := n9'
    replace hI := hI'
    clear hk hI' n9'
    obtain ⟨act9, rfl⟩ : ∃ x, x = a' := ⟨_, rfl⟩
    clear n8
    refine restF_take (k := 5) (d := 10) (v := .pointer (some ⟨w.heap.size, 0, none⟩)) hI rfl rfl (by kernel_rfl) (Nat.lt_of_le_of_lt (by decide) hsz) (by kernel_rfl) hpan (by kernel_rfl) hS (wanted_free rfl) (fun z hz => by have n3 := hI.at m3 (by kernel_rfl); have e3 := n3; have f3 := n3.eval; unfold At at e3; simp [go_sem, e3]) (fun a' hI' n10' hk => ?_)
    replace n9 := hk _ _ n9 rfl
    have n10 := n10'
    replace hI := hI'
    clear hk hI' n10'
    obtain ⟨act9, rfl⟩ : ∃ x, x = a' := ⟨_, rfl⟩
    refine restF_take (k := 6) (d := 11) (v := .int .i64 ((i1 : Int) + 1)) hI rfl rfl (by kernel_rfl) (Nat.lt_of_le_of_lt (by decide) hsz) (by kernel_rfl) hpan (by kernel_rfl) hS (wanted_free rfl) (fun z hz => by have e10 := n10; have f10 := n10.eval; unfold At at e10; have k0 := heap_cell hz.2.1 (j := 0) rfl; simp [go_sem, e10, k0]) (fun a' hI' n11' hk => ?_)
    replace n9 := hk _ _ n9 rfl
    replace n10 := hk _ _ n10 rfl
    have n11 := n11'
    replace hI := hI'
    clear hk hI' n11'
    obtain ⟨act9, rfl⟩ : ∃ x, x = a' := ⟨_, rfl⟩
    clear n10
    refine restF_take (k := 7) (d := 12) (v := .int .i64 (i1 : Int)) hI rfl rfl (by kernel_rfl) (Nat.lt_of_le_of_lt (by decide) hsz) (by kernel_rfl) hpan (by kernel_rfl) hS (wanted_free rfl) (fun z hz => by have e11 := n11; have f11 := n11.eval; unfold At at e11; simp [go_sem, e11, m1]) (fun a' hI' n12' hk => ?_)
    replace n9 := hk _ _ n9 rfl
    replace n11 := hk _ _ n11 rfl
    have n12 := n12'
    replace hI := hI'
    clear hk hI' n12'
    obtain ⟨act9, rfl⟩ : ∃ x, x = a' := ⟨_, rfl⟩
    clear n11
    refine restF_take (k := 8) (d := 13) (v := .pointer (some ⟨b, off + i1, none⟩)) hI rfl rfl (by kernel_rfl) (Nat.lt_of_le_of_lt (by decide) hsz) (by kernel_rfl) hpan (by kernel_rfl) hS (wanted_free rfl) (fun z hz => by have e9 := n9; have f9 := n9.eval; unfold At at e9; have e12 := n12; have f12 := n12.eval; unfold At at e12; simp [go_sem, e9, e12, n1]) (fun a' hI' n13' hk => ?_)
    replace n9 := hk _ _ n9 rfl
    replace n12 := hk _ _ n12 rfl
    have n13 := n13'
    replace hI := hI'
    clear hk hI' n13'
    obtain ⟨act9, rfl⟩ : ∃ x, x = a' := ⟨_, rfl⟩
    clear n9
    clear n12
    refine restF_take (k := 9) (d := 14) (v := .int .i64 (p : Int)) hI rfl rfl (by kernel_rfl) (Nat.lt_of_le_of_lt (by decide) hsz) (by kernel_rfl) hpan (by kernel_rfl) hS (wanted_free rfl) (fun z hz => by have e13 := n13; have f13 := n13.eval; unfold At at e13; have k0 := hz.2.2.1; simp [go_sem, e13, k0]) (fun a' hI' n14' hk => ?_)
    replace n13 := hk _ _ n13 rfl
    have n14 := n14'
    replace hI := hI'
    clear hk hI' n14'
    obtain ⟨act9, rfl⟩ : ∃ x, x = a' := ⟨_, rfl⟩
    clear n13
    refine restF_take (k := 10) (d := 15) (v := .pointer (some ⟨B, 0, none⟩)) hI rfl rfl (by kernel_rfl) (Nat.lt_of_le_of_lt (by decide) hsz) (by kernel_rfl) hpan (by kernel_rfl) hS (wanted_free rfl) (fun z hz => by have n0 := hI.at m0 (by kernel_rfl); have e0 := n0; have f0 := n0.eval; unfold At at e0; simp [go_sem, e0]) (fun a' hI' n15' hk => ?_)
    replace n14 := hk _ _ n14 rfl
    have n15 := n15'
    replace hI := hI'
    clear hk hI' n15'
    obtain ⟨act9, rfl⟩ : ∃ x, x = a' := ⟨_, rfl⟩
    refine restF_take (k := 11) (d := 16) (v := .pointer (some ⟨B, 0, none⟩)) hI rfl rfl (by kernel_rfl) (Nat.lt_of_le_of_lt (by decide) hsz) (by kernel_rfl) hpan (by kernel_rfl) hS (wanted_free rfl) (fun z hz => by have e15 := n15; have f15 := n15.eval; unfold At at e15; simp [go_sem, e15]) (fun a' hI' n16' hk => ?_)
    replace n14 := hk _ _ n14 rfl
    replace n15 := hk _ _ n15 rfl
    have n16 := n16'
    replace hI := hI'
    clear hk hI' n16'
    obtain ⟨act9, rfl⟩ : ∃ x, x = a' := ⟨_, rfl⟩
    clear n15
    refine restF_take (k := 12) (d := 17) (v := .pointer (some ⟨B, 0, none⟩)) hI rfl rfl (by kernel_rfl) (Nat.lt_of_le_of_lt (by decide) hsz) (by kernel_rfl) hpan (by kernel_rfl) hS (wanted_free rfl) (fun z hz => by have e16 := n16; have f16 := n16.eval; unfold At at e16; simp [go_sem, e16]) (fun a' hI' n17' hk => ?_)
    replace n14 := hk _ _ n14 rfl
    replace n16 := hk _ _ n16 rfl
    have n17 := n17'
    replace hI := hI'
    clear hk hI' n17'
    obtain ⟨act9, rfl⟩ : ∃ x, x = a' := ⟨_, rfl⟩
    clear n16
    refine restF_take (k := 13) (d := 18) (v := .pointer (some ⟨B, 0, none⟩)) hI rfl rfl (by kernel_rfl) (Nat.lt_of_le_of_lt (by decide) hsz) (by kernel_rfl) hpan (by kernel_rfl) hS (wanted_free rfl) (fun z hz => by have e17 := n17; have f17 := n17.eval; unfold At at e17; simp [go_sem, e17]) (fun a' hI' n18' hk => ?_)
    replace n14 := hk _ _ n14 rfl
    replace n17 := hk _ _ n17 rfl
    have n18 := n18'
    replace hI := hI'
    clear hk hI' n18'
    obtain ⟨act9, rfl⟩ : ∃ x, x = a' := ⟨_, rfl⟩
    clear n17
    refine restF_take (k := 14) (d := 19) (v := .slice (some ⟨b, off, none⟩) n c) hI rfl rfl (by kernel_rfl) (Nat.lt_of_le_of_lt (by decide) hsz) (by kernel_rfl) hpan (by kernel_rfl) hS (wanted_free rfl) (fun z hz => by have e18 := n18; have f18 := n18.eval; unfold At at e18; have k0 := heap_cell hz.1 (j := 0) rfl; simp [go_sem, e18, k0]) (fun a' hI' n19' hk => ?_)
    replace n14 := hk _ _ n14 rfl
    replace n18 := hk _ _ n18 rfl
    have n19 := n19'
    replace hI := hI'
    clear hk hI' n19'
    obtain ⟨act9, rfl⟩ : ∃ x, x = a' := ⟨_, rfl⟩
    clear n18
    refine restF_take (k := 15) (d := 20) (v := .pointer (some ⟨w.heap.size, 1, none⟩)) hI rfl rfl (by kernel_rfl) (Nat.lt_of_le_of_lt (by decide) hsz) (by kernel_rfl) hpan (by kernel_rfl) hS (wanted_free rfl) (fun z hz => by have n3 := hI.at m3 (by kernel_rfl); have e3 := n3; have f3 := n3.eval; unfold At at e3; simp [go_sem, e3]) (fun a' hI' n20' hk => ?_)
    replace n14 := hk _ _ n14 rfl
    replace n19 := hk _ _ n19 rfl
    have n20 := n20'
    replace hI := hI'
    clear hk hI' n20'
    obtain ⟨act9, rfl⟩ : ∃ x, x = a' := ⟨_, rfl⟩
    refine restF_take (k := 16) (d := 21) (v := .int .i64 ((i2 : Int) + 1)) hI rfl rfl (by kernel_rfl) (Nat.lt_of_le_of_lt (by decide) hsz) (by kernel_rfl) hpan (by kernel_rfl) hS (wanted_free rfl) (fun z hz => by have e20 := n20; have f20 := n20.eval; unfold At at e20; have k0 := heap_cell hz.2.1 (j := 1) rfl; simp [go_sem, e20, k0]) (fun a' hI' n21' hk => ?_)
    replace n14 := hk _ _ n14 rfl
    replace n19 := hk _ _ n19 rfl
    replace n20 := hk _ _ n20 rfl
    have n21 := n21'
    replace hI := hI'
    clear hk hI' n21'
    obtain ⟨act9, rfl⟩ : ∃ x, x = a' := ⟨_, rfl⟩
    clear n20
    refine restF_take (k := 17) (d := 22) (v := .int .i64 (i2 : Int)) hI rfl rfl (by kernel_rfl) (Nat.lt_of_le_of_lt (by decide) hsz) (by kernel_rfl) hpan (by kernel_rfl) hS (wanted_free rfl) (fun z hz => by have e21 := n21; have f21 := n21.eval; unfold At at e21; simp [go_sem, e21, m2]) (fun a' hI' n22' hk => ?_)
    replace n14 := hk _ _ n14 rfl
    replace n19 := hk _ _ n19 rfl
    replace n21 := hk _ _ n21 rfl
    have n22 := n22'
    replace hI := hI'
    clear hk hI' n22'
    obtain ⟨act9, rfl⟩ : ∃ x, x = a' := ⟨_, rfl⟩
    clear n21
    refine restF_take (k := 18) (d := 23) (v := .pointer (some ⟨b, off + i2, none⟩)) hI rfl rfl (by kernel_rfl) (Nat.lt_of_le_of_lt (by decide) hsz) (by kernel_rfl) hpan (by kernel_rfl) hS (wanted_free rfl) (fun z hz => by have e19 := n19; have f19 := n19.eval; unfold At at e19; have e22 := n22; have f22 := n22.eval; unfold At at e22; simp [go_sem, e19, e22, n2]) (fun a' hI' n23' hk => ?_)
    replace n14 := hk _ _ n14 rfl
    replace n19 := hk _ _ n19 rfl
    replace n22 := hk _ _ n22 rfl
    have n23 := n23'
    replace hI := hI'
    clear hk hI' n23'
    obtain ⟨act9, rfl⟩ : ∃ x, x = a' := ⟨_, rfl⟩
    clear n19
    clear n22
    refine restF_take (k := 19) (d := 24) (v := .int .i64 (q : Int)) hI rfl rfl (by kernel_rfl) (Nat.lt_of_le_of_lt (by decide) hsz) (by kernel_rfl) hpan (by kernel_rfl) hS (wanted_free rfl) (fun z hz => by have e23 := n23; have f23 := n23.eval; unfold At at e23; have k0 := hz.2.2.2; simp [go_sem, e23, k0]) (fun a' hI' n24' hk => ?_)
    replace n14 := hk _ _ n14 rfl
    replace n23 := hk _ _ n23 rfl
    have n24 := n24'
    replace hI := hI'
    clear hk hI' n24'
    obtain ⟨act9, rfl⟩ : ∃ x, x = a' := ⟨_, rfl⟩
    clear n23
    refine restF_take (k := 20) (d := 25) (v := twoV p q) hI rfl rfl (by kernel_rfl) (Nat.lt_of_le_of_lt (by decide) hsz) (by kernel_rfl) hpan (by kernel_rfl) hS (wanted_free rfl) (fun z hz => by have e14 := n14; have f14 := n14.eval; unfold At at e14; have e24 := n24; have f24 := n24.eval; unfold At at e24; simp [go_sem, e14, e24]) (fun a' hI' n25' hk => ?_)
    replace n14 := hk _ _ n14 rfl
    replace n24 := hk _ _ n24 rfl
    have n25 := n25'
    replace hI := hI'
    clear hk hI' n25'
    obtain ⟨act9, rfl⟩ : ∃ x, x = a' := ⟨_, rfl⟩
    clear n14
    clear n24
    have hty := heap_lft HT.out hq
    obtain ⟨Y, hY⟩ : ∃ Y, (wz.setCell ⟨w.heap.size + 1, 0, none⟩ (.int .i64 p)).setCell ⟨w.heap.size + 1, 1, none⟩ (.int .i64 q) = Y := ⟨_, rfl⟩
    refine restF_only (k := 21) (by kernel_rfl) (op_store (k := 21) rfl rfl (wanted_free rfl) (by have n4 := hI.at m4 (by kernel_rfl); have e4 := n4; have f4 := n4.eval; unfold At at e4; have e25 := n25; have f25 := n25.eval; unfold At at e25; have k2 := heap_cell hty (j := 0) rfl; have k3 := heap_cell hty (j := 1) rfl; have f2 := heap_frozen hty 0; have f3 := heap_frozen hty 1; simp [go_sem, e4, e25, k2, k3, f2, f3]; try rfl) ⟨(fun hf => by cases hf), ?_⟩)
    refine restF_done (by kernel_rfl) ?_
    rw [hY]
    refine hfin _ _ hI ⟨?_, ?_⟩
    · rw [← hY]; exact heap_set (heap_set hty 0 _) 1 _
    · rw [← hY]; exact ((below_thn HB0.out hq).setCell (by simp) _).setCell (by simp) _
  case rest =>
    obtain ⟨V, rfl⟩ : ∃ z, z = wc := ⟨_, rfl⟩
    obtain ⟨h1, h2⟩ := hcut
    have HT2 := Lib.hid h1
    have HB2 := Lib.hid h2
    clear h1 h2
    have t0 := heap_cell HT2.out (j := 0) rfl
    have t1 := heap_cell HT2.out (j := 1) rfl
    go_wp2_with fail
    refine bodyPost_ret (v := twoV p q) (by simp [results, Try.results33, go_sem, t0, t1]; try rfl) rfl ⟨rfl, HB2.out⟩

set_option maxHeartbeats 8000000 in
set_option maxRecDepth 100000 in
theorem ratio_any (B mp : Nat) (a : Option Addr) (n c : Nat) (F : Nat → Int) (la : Option Addr) (ln lc : Nat) (L : Nat → Int) (hG : Gears n F ln L) (w : World) (hB : w.heap[B]? = some (shedB a n c mp)) (hF : NumsAt w a n F) (hL : NumsAt w la (ln * 2) L) :
    Calls Try.prog 18 #[.pointer (some ⟨B, 0, none⟩), .slice la ln lc] w fun e w' => e = .returned (partV (Pure.lowN (Pure.nm F L ln) (Pure.dn F L ln) : Nat) (Pure.lowD (Pure.nm F L ln) (Pure.dn F L ln) : Nat)) ∧ Below w.heap.size w w' := by
  obtain ⟨W, hW⟩ : ∃ W, w.alloc (partB 0 0) = W := ⟨_, rfl⟩
  have HB0 : Hid (Below w.heap.size w W) := Lib.hid (by rw [← hW]; exact below_new _ _)
  have HX : Hid (W.heap[w.heap.size]? = some (partB 0 0)) := Lib.hid (by rw [← hW]; exact heap_top _ _ rfl)
  have HBB := Lib.hid (heap_lft hB HB0.out)
  have HFF := Lib.hid (hF.below HB0.out)
  have HLL := Lib.hid (hL.below HB0.out)
  have HG := Lib.hid hG
  have hl20 : (ln : Int) ≤ 3 := by have := hG.l; omega
  clear hB hF hL hG
  go_enter Try.func18, Try.ntmps18
  go_upto_region 1 with fail
  try rw [hW]
  clear hW
  go_wp2_with fail
  go_loopw [5, 6, 8, 9, 12] (fun u v _ _ i wr => ∃ k : Nat, k ≤ ln ∧ i = .int .i64 k ∧ u = .int .i64 (Pure.nm F L k : Nat) ∧ v = .int .i64 (Pure.dn F L k : Nat) ∧ Below W.heap.size W wr) (fun _ _ _ _ i _ => ln - (intOf i).toNat)
  case atStart => exact ⟨0, Nat.zero_le _, rfl, rfl, rfl, Below.refl _ _⟩
  case round =>
    obtain ⟨k, hk, rfl, rfl, rfl, hb⟩ := hrel
    have HBk := Lib.hid hb
    clear hb
    by_cases hk1 : k < ln
    · obtain ⟨b, off, rfl, _⟩ := HLL.out (k * 2) (by omega)
      have n1 : (k : Int) < ln := by omega
      have c0 := (HLL.out.below HBk.out).at (show k * 2 < ln * 2 by omega)
      have c1 := nums_row (HLL.out.below HBk.out) (show k * 2 + 1 < ln * 2 by omega)
      have hp := HG.out.p k hk1
      have hnm := HG.out.nm (k + 1) (by omega)
      have hpw := pow_most (k := k + 1) (by omega)
      have hsn : Pure.nm F L (k + 1) = Pure.nm F L k * Pure.tooth F (L (k * 2)) := rfl
      have hsd : Pure.dn F L (k + 1) = Pure.dn F L k * Pure.tooth F (L (k * 2 + 1)) := rfl
      have hte := teeth_any B mp a n c F ln L (L (k * 2)) (L (k * 2 + 1)) HG.out hp.1 hp.2
      obtain ⟨x, hx⟩ : ∃ z, L (k * 2) = z := ⟨_, rfl⟩
      obtain ⟨y, hy⟩ : ∃ z, L (k * 2 + 1) = z := ⟨_, rfl⟩
      rw [hx] at c0 hsn hte
      rw [hy] at c1 hsd hte
      obtain ⟨p, hpE⟩ : ∃ z, Pure.tooth F x = z := ⟨_, rfl⟩
      obtain ⟨q, hqE⟩ : ∃ z, Pure.tooth F y = z := ⟨_, rfl⟩
      rw [hpE] at hsn hte
      rw [hqE] at hsd hte
      obtain ⟨un, hun⟩ : ∃ z, Pure.nm F L k = z := ⟨_, rfl⟩
      obtain ⟨vn, hvn⟩ : ∃ z, Pure.dn F L k = z := ⟨_, rfl⟩
      rw [hun] at hsn ⊢
      rw [hvn] at hsd ⊢
      have hm1 : IntKind.i64.wrap ((un : Int) * (p : Int)) = (un : Int) * (p : Int) := by
        have h := wrap_nat (x := un * p) (by rw [← hsn]; exact Nat.le_trans hnm.1.2 hpw)
        rwa [Int.natCast_mul] at h
      have hm2 : IntKind.i64.wrap ((vn : Int) * (q : Int)) = (vn : Int) * (q : Int) := by
        have h := wrap_nat (x := vn * q) (by rw [← hsd]; exact Nat.le_trans hnm.2.2 hpw)
        rwa [Int.natCast_mul] at h
      have HTE := Lib.hid hte
      have HSN := Lib.hid hsn
      have HSD := Lib.hid hsd
      have HM := Lib.hid (And.intro hm1 hm2)
      clear hp hnm hpw hsn hsd hte hx hy hpE hqE hun hvn hm1 hm2
      obtain ⟨U, hU⟩ : ∃ U, wr.alloc (pairB x y) = U := ⟨_, rfl⟩
      have HBU : Hid (Below W.heap.size W U) := Lib.hid (by rw [← hU]; exact below_thn HBk.out (below_new _ _))
      have HPU : Hid (U.heap[wr.heap.size]? = some (pairB x y)) := Lib.hid (by rw [← hU]; exact heap_top _ _ rfl)
      go_upto_region 5 with fail
      try rw [hU]
      clear hU c0 c1
      have x0 := heap_cell HPU.out (j := 0) rfl
      have x1 := heap_cell HPU.out (j := 1) rfl
      go_wp2_with fail
      refine (HTE.out _ (heap_lft HBB.out HBU.out) (HFF.out.below HBU.out)).mono ?_
      rintro e u ⟨rfl, hb⟩
      have HBu := Lib.hid (below_thn HBU.out hb)
      clear hb x0 x1
      go_upto_region 6 with fail
      obtain ⟨V, hV⟩ : ∃ V, u.alloc (twoB p q) = V := ⟨_, rfl⟩
      have HBV : Hid (Below W.heap.size W V) := Lib.hid (below_thn HBu.out (by rw [← hV]; exact below_new _ _))
      have HT : Hid (V.heap[u.heap.size]? = some (twoB p q)) := Lib.hid (by rw [← hV]; exact heap_top _ _ rfl)
      try rw [hV]
      clear hV
      have t0 := heap_cell HT.out (j := 0) rfl
      have t1 := heap_cell HT.out (j := 1) rfl
      have hm1 := HM.out.1
      have hm2 := HM.out.2
      have xx0 := among_below t0
      have xx1 := among_below t1
      have HSt : Hid (Below V.heap.size V V.drew) := Lib.hid (Below.refl _ _).drew
      have hne : Nonempty (Among (Below V.heap.size V)) := ⟨⟨_, HSt.out⟩⟩
      refine wp_region_class (Below V.heap.size V) (by kernel_rfl) (by kernel_rfl) HSt.out ?_
      repeat (go_big_quiet_step (fail))
      refine wpQuiet_nil ?_
      intro w8 hx
      have HB8 := Lib.hid (among_out hx)
      clear hx hne xx0 xx1
      clear t0 t1
      go_wp2_with fail
      go_roundw
      case rel => exact ⟨k + 1, by omega, by go_num, by rw [HSN.out, Int.natCast_mul], by rw [HSD.out, Int.natCast_mul], below_thn HBV.out HB8.out⟩
      case measure => simp [intOf]; omega
    · obtain rfl : k = ln := by omega
      have n1 : ¬ (k : Int) < k := by omega
      have hnm := HG.out.nm k (Nat.le_refl _)
      have hpw := pow_most (k := k) (by omega)
      have hlo := lowest_any (Pure.nm F L k) (Pure.dn F L k) ⟨hnm.1.1, Nat.le_trans hnm.1.2 hpw⟩ (Nat.le_trans hnm.2.2 hpw)
      have HLO := Lib.hid hlo
      clear hnm hpw hlo
      go_wp2_with fail
      refine (HLO.out _).mono ?_
      rintro e u ⟨rfl, hb⟩
      have HBu := Lib.hid (below_thn HBk.out hb)
      have HXu := Lib.hid (heap_lft HX.out HBu.out)
      clear hb
      have x0 := heap_cell HXu.out (j := 0) rfl
      have x1 := heap_cell HXu.out (j := 1) rfl
      have f0 := heap_frozen HXu.out 0
      have f1 := heap_frozen HXu.out 1
      obtain ⟨p, hp⟩ : ∃ z, Pure.lowN (Pure.nm F L k) (Pure.dn F L k) = z := ⟨_, rfl⟩
      obtain ⟨q, hq⟩ : ∃ z, Pure.lowD (Pure.nm F L k) (Pure.dn F L k) = z := ⟨_, rfl⟩
      rw [hp, hq]
      have HPQ := Lib.hid (And.intro hp hq)
      clear hp hq
      have HBW := Lib.hid (below_thn HB0.out HBu.out)
      go_wp2_with fail
      refine bodyPost_ret (v := partV p q) (by simp [results, Try.results18, go_sem, x0, x1]; try rfl) rfl ⟨by rw [HPQ.out.1, HPQ.out.2], ?_⟩
      repeat (first | with_reducible exact HBW.out | with_reducible refine Below.setCell ?_ (by simp) _)

end Go.Proofs.Ytacdbjandcdejaa
