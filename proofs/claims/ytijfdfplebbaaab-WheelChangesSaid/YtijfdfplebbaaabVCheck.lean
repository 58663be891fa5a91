/-
  The contracts of what a shaft is asked, and of Sound.
-/
import Derived.Test.YtijfdfplebbaaabVOrd
import Derived.Test.YtijfdfplebbaaabRest
namespace Go.Proofs.Ytijfdfplebbaaab
open Go.RowKit

namespace Pure
def marksB (m : Int) (n : Nat) : Bool := decide (1 ≤ m ∧ m ≤ 12) && decide ((n : Int) ≤ 4)
def camBad (m c u : Int) : Bool := decide (c < 1) || (!decide (m % c = 0) || !decide (1 ≤ u ∧ u ≤ m / c - 1))
def poundBad (p : Int) : Bool := !decide (1 ≤ p ∧ p ≤ 500)
def camsB (m : Int) (n : Nat) (F : Nat → Int) : Bool := !(List.range n).any (fun j => camBad m (F (j * 3)) (F (j * 3 + 1)))
def poundsB (n : Nat) (F : Nat → Int) : Bool := !(List.range n).any (fun j => poundBad (F (j * 3 + 2)))
def shaft (m : Int) (n : Nat) (F : Nat → Int) : Bool := marksB m n && camsB m n F && poundsB n F
theorem tmod_nn {m c : Int} (h : 1 ≤ m) : Int.tmod m c = m % c := Int.tmod_eq_emod_of_nonneg (by omega)
theorem tdiv_nn {m c : Int} (h : 1 ≤ m) : Int.tdiv m c = m / c := Int.tdiv_eq_ediv_of_nonneg (by omega)
theorem ediv_le {m c : Int} (h : 1 ≤ m) (hc : 1 ≤ c) : 0 ≤ m / c ∧ m / c ≤ m := ⟨Int.ediv_nonneg (by omega) (by omega), Int.ediv_le_self c (by omega)⟩
theorem emod_le {m c : Int} (h : 1 ≤ m) (hc : 1 ≤ c) : 0 ≤ m % c ∧ m % c ≤ m := ⟨Int.emod_nonneg m (by omega), by
  have := Int.emod_add_mul_ediv m c
  have h1 := (ediv_le h hc).1
  have h2 : 0 ≤ c * (m / c) := Int.mul_nonneg (by omega) h1
  omega⟩
end Pure

set_option maxHeartbeats 1000000 in
theorem marksFit_any (m : Int) (a : Option Addr) (n c : Nat) (w : World) : Calls Try.prog 30 #[shaftV m a n c] w fun e w' => e = .returned (.bool (Pure.marksB m n)) ∧ Below w.heap.size w w' := by
  obtain ⟨r1, hr1⟩ : ∃ r, decide (1 ≤ m ∧ m ≤ 12) = r := ⟨_, rfl⟩
  unfold Pure.marksB
  rw [hr1]
  have HR1 := Lib.hid hr1
  clear hr1
  go_enter Try.func30, Try.ntmps30
  go_wp2_with fail
  refine (within1 1 12 m _ _ _ (first_cell _ _ _ (by simp)) r1 HR1.out).mono ?_
  rintro e w' ⟨rfl, rfl⟩
  cases r1
  all_goals
    go_wp2_with fail
    go_ret
    exact ⟨ret_bool (by simp), by repeat (first | exact Below.refl _ _ | refine Below.alloc ?_ (by simp; try omega) _)⟩
set_option maxHeartbeats 2000000 in
set_option maxRecDepth 100000 in
/-- The closure that finds wrong cams. -/
theorem camBad_any (B : Nat) (m : Int) (a : Option Addr) (n cc : Nat) (c u p : Int) (hm : 1 ≤ m ∧ m ≤ 12) (w : World) (hB : w.heap[B]? = some (shaftB m a n cc)) :
    Calls Try.prog 34 #[stampV c u p, .pointer (some ⟨B, 0, none⟩)] w fun x w' => x = .returned (.bool (Pure.camBad m c u)) ∧ Below w.heap.size w w' := by
  unfold Pure.camBad
  obtain ⟨r0, hr0⟩ : ∃ r, decide (c < 1) = r := ⟨_, rfl⟩
  obtain ⟨md, hmd⟩ : ∃ z, m % c = z := ⟨_, rfl⟩
  obtain ⟨dv, hdv⟩ : ∃ z, m / c = z := ⟨_, rfl⟩
  obtain ⟨r2, hr2⟩ : ∃ r, (md != 0) = r := ⟨_, rfl⟩
  obtain ⟨r3, hr3⟩ : ∃ r, decide (1 ≤ u ∧ u ≤ dv - 1) = r := ⟨_, rfl⟩
  have hr2' : (!decide (md = 0)) = r2 := by rw [← hr2]; by_cases h : md = 0 <;> simp [h]
  rw [hr0, hmd, hdv, hr2', hr3]
  have HR3 := Lib.hid hr3
  have HMC : Hid (r0 = false → ¬ c = 0 ∧ Int.tmod m c = md ∧ Int.tdiv m c = dv ∧ IntKind.i64.wrap md = md ∧ IntKind.i64.wrap dv = dv ∧ IntKind.i64.wrap (dv - 1) = dv - 1) := Lib.hid (fun h => by
    subst h
    have h1 : 1 ≤ c := by have := of_decide_eq_false hr0; omega
    have hd := Pure.ediv_le hm.1 h1
    have he := Pure.emod_le hm.1 h1
    exact ⟨by omega, by rw [Pure.tmod_nn hm.1, hmd], by rw [Pure.tdiv_nn hm.1, hdv], IntWalk.i64_in _ (by omega), IntWalk.i64_in _ (by omega), IntWalk.i64_in _ (by omega)⟩)
  have HR0 := Lib.hid hr0
  have HR2 := Lib.hid hr2
  clear hr0 hr2 hr2' hr3 hmd hdv hm
  obtain ⟨W, hW⟩ : ∃ W, w.alloc (stampB c u p) = W := ⟨_, rfl⟩
  have HB : Hid (Below w.heap.size w W) := Lib.hid (by rw [← hW]; exact below_new _ _)
  have HX : Hid (W.heap[B]? = some (shaftB m a n cc) ∧ W.heap[w.heap.size]? = some (stampB c u p)) := Lib.hid ⟨heap_lft hB HB.out, by rw [← hW]; exact heap_top _ _ rfl⟩
  clear hB
  go_enter Try.func34, Try.ntmps34
  go_upto_region 1 with fail
  try rw [hW]
  clear hW
  go_cut [3] from 4 to 28 (fun s wx => s = .bool (r0 || (r2 || !r3)) ∧ Below W.heap.size W wx)
  case first =>
    rename_i J K' hJ hK'
    generalize hA : (Act.mk _ _ : Act) = a0
    have m1 : At a0 1 (.pointer (some ⟨B, 0, none⟩)) := by rw [← hA]; rfl
    have m2 : At a0 2 (.pointer (some ⟨w.heap.size, 0, none⟩)) := by rw [← hA]; rfl
    have hsz : 28 < a0.tmps.size := by rw [← hA]; exact of_decide_eq_true (by kernel_rfl)
    have hfin : ∀ a' w', Kept (3 :: List.range' 4 25) a0 a' → At a' 3 (.bool (r0 || (r2 || !r3))) → (Below W.heap.size W w') → K' a' w' := by
      intro a' w' hI hv3 hL
      refine hK' _ _ (Met.intro (hJ _ _ ⟨a'.tmps.getD 3 undef, a'.tmps.getD 4 undef, a'.tmps.getD 5 undef, a'.tmps.getD 6 undef, a'.tmps.getD 7 undef, a'.tmps.getD 8 undef, a'.tmps.getD 9 undef, a'.tmps.getD 10 undef, a'.tmps.getD 11 undef, a'.tmps.getD 12 undef, a'.tmps.getD 13 undef, a'.tmps.getD 14 undef, a'.tmps.getD 15 undef, a'.tmps.getD 16 undef, a'.tmps.getD 17 undef, a'.tmps.getD 18 undef, a'.tmps.getD 19 undef, a'.tmps.getD 20 undef, a'.tmps.getD 21 undef, a'.tmps.getD 22 undef, a'.tmps.getD 23 undef, a'.tmps.getD 24 undef, a'.tmps.getD 25 undef, a'.tmps.getD 26 undef, a'.tmps.getD 27 undef, a'.tmps.getD 28 undef, ⟨by have g := hv3; unfold At at g; rw [Array.getD_eq_getD_getElem?, g]; rfl, hL⟩, hI.eq.trans ?_⟩))
      rw [← hA]
      kernel_rfl
    have hI : Kept (3 :: List.range' 4 25) a0 a0 := Kept.refl _ _
    clear hA hJ hK' J
    refine with_pan (fun d _ _ _ _ h => by cases d <;> exact h) ?_
    intro hpan
    refine wp_region_rest (fun z => z.heap[B]? = some (shaftB m a n cc) ∧ z.heap[w.heap.size]? = some (stampB c u p)) (by kernel_rfl) ?_
    obtain ⟨wz, hwz⟩ : ∃ x, W.drew = x := ⟨_, rfl⟩
    change Rest _ _ _ _ _ _ _ (W.drew)
    rw [hwz]
    have hq : Below W.heap.size W wz := by rw [← hwz]; exact (Below.refl _ _).drew
    clear hwz
    have hS := (And.intro (heap_lft HX.out.1 hq) (heap_lft HX.out.2 hq))
    refine rest_take (k := 0) (d := 4) (v := .pointer (some ⟨w.heap.size, 0, none⟩)) hI rfl rfl (by kernel_rfl) (Nat.lt_of_le_of_lt (by decide) hsz) (by kernel_rfl) hpan (by kernel_rfl) hS (wanted_free rfl) (fun z hz => by have n2 := hI.at m2 (by kernel_rfl); have e2 := n2; have f2 := n2.eval; unfold At at e2; simp [go_sem, e2]) (fun a' hI' n4' hk => ?_)
    have n4 := n4'
    replace hI := hI'
    clear hk hI' n4'
    obtain ⟨act9, rfl⟩ : ∃ x, x = a' := ⟨_, rfl⟩
    refine rest_take (k := 1) (d := 5) (v := .int .i64 c) hI rfl rfl (by kernel_rfl) (Nat.lt_of_le_of_lt (by decide) hsz) (by kernel_rfl) hpan (by kernel_rfl) hS (wanted_free rfl) (fun z hz => by have e4 := n4; have f4 := n4.eval; unfold At at e4; have k0 := heap_cell hz.2 (j := 0) rfl; simp [go_sem, e4, k0]) (fun a' hI' n5' hk => ?_)
    replace n4 := hk _ _ n4 rfl
    have n5 := n5'
    replace hI := hI'
    clear hk hI' n5'
    obtain ⟨act9, rfl⟩ : ∃ x, x = a' := ⟨_, rfl⟩
    clear n4
    refine rest_take (k := 2) (d := 6) (v := .bool r0) hI rfl rfl (by kernel_rfl) (Nat.lt_of_le_of_lt (by decide) hsz) (by kernel_rfl) hpan (by kernel_rfl) hS (wanted_free rfl) (fun z hz => by have e5 := n5; have f5 := n5.eval; unfold At at e5; have k1 := HR0.out; simp [go_sem, e5, k1]) (fun a' hI' n6' hk => ?_)
    replace n5 := hk _ _ n5 rfl
    have n6 := n6'
    replace hI := hI'
    clear hk hI' n6'
    obtain ⟨act9, rfl⟩ : ∃ x, x = a' := ⟨_, rfl⟩
    clear n5
    cases r0
    · obtain ⟨hc0, hmo, hdi, hwm, hwd, hw1⟩ := HMC.out rfl
      refine rest_take (k := 3) (d := 7) (v := .bool false) hI rfl rfl (by kernel_rfl) (Nat.lt_of_le_of_lt (by decide) hsz) (by kernel_rfl) hpan (by kernel_rfl) hS (wanted_free rfl) (fun z hz => by have e6 := n6; have f6 := n6.eval; unfold At at e6; simp [go_sem, e6]) (fun a' hI' n7' hk => ?_)
      replace n6 := hk _ _ n6 rfl
      have n7 := n7'
      replace hI := hI'
      clear hk hI' n7'
      obtain ⟨act9, rfl⟩ : ∃ x, x = a' := ⟨_, rfl⟩
      clear n6
      refine rest_take (k := 4) (d := 8) (v := .pointer (some ⟨B, 0, none⟩)) hI rfl rfl (by kernel_rfl) (Nat.lt_of_le_of_lt (by decide) hsz) (by kernel_rfl) hpan (by kernel_rfl) hS (wanted_at rfl rfl (n7)) (fun z hz => by have n1 := hI.at m1 (by kernel_rfl); have e1 := n1; have f1 := n1.eval; unfold At at e1; simp [go_sem, e1]) (fun a' hI' n8' hk => ?_)
      replace n7 := hk _ _ n7 rfl
      have n8 := n8'
      replace hI := hI'
      clear hk hI' n8'
      obtain ⟨act9, rfl⟩ : ∃ x, x = a' := ⟨_, rfl⟩
      refine rest_take (k := 5) (d := 9) (v := .int .i64 m) hI rfl rfl (by kernel_rfl) (Nat.lt_of_le_of_lt (by decide) hsz) (by kernel_rfl) hpan (by kernel_rfl) hS (wanted_at rfl rfl (n7)) (fun z hz => by have e8 := n8; have f8 := n8.eval; unfold At at e8; have k0 := heap_cell hz.1 (j := 0) rfl; simp [go_sem, e8, k0]) (fun a' hI' n9' hk => ?_)
      replace n7 := hk _ _ n7 rfl
      replace n8 := hk _ _ n8 rfl
      have n9 := n9'
      replace hI := hI'
      clear hk hI' n9'
      obtain ⟨act9, rfl⟩ : ∃ x, x = a' := ⟨_, rfl⟩
      clear n8
      refine rest_take (k := 6) (d := 10) (v := .pointer (some ⟨w.heap.size, 0, none⟩)) hI rfl rfl (by kernel_rfl) (Nat.lt_of_le_of_lt (by decide) hsz) (by kernel_rfl) hpan (by kernel_rfl) hS (wanted_at rfl rfl (n7)) (fun z hz => by have n2 := hI.at m2 (by kernel_rfl); have e2 := n2; have f2 := n2.eval; unfold At at e2; simp [go_sem, e2]) (fun a' hI' n10' hk => ?_)
      replace n7 := hk _ _ n7 rfl
      replace n9 := hk _ _ n9 rfl
      have n10 := n10'
      replace hI := hI'
      clear hk hI' n10'
      obtain ⟨act9, rfl⟩ : ∃ x, x = a' := ⟨_, rfl⟩
      refine rest_take (k := 7) (d := 11) (v := .int .i64 c) hI rfl rfl (by kernel_rfl) (Nat.lt_of_le_of_lt (by decide) hsz) (by kernel_rfl) hpan (by kernel_rfl) hS (wanted_at rfl rfl (n7)) (fun z hz => by have e10 := n10; have f10 := n10.eval; unfold At at e10; have k0 := heap_cell hz.2 (j := 0) rfl; simp [go_sem, e10, k0]) (fun a' hI' n11' hk => ?_)
      replace n7 := hk _ _ n7 rfl
      replace n9 := hk _ _ n9 rfl
      replace n10 := hk _ _ n10 rfl
      have n11 := n11'
      replace hI := hI'
      clear hk hI' n11'
      obtain ⟨act9, rfl⟩ : ∃ x, x = a' := ⟨_, rfl⟩
      clear n10
      refine rest_take (k := 8) (d := 12) (v := .int .i64 md) hI rfl rfl (by kernel_rfl) (Nat.lt_of_le_of_lt (by decide) hsz) (by kernel_rfl) hpan (by kernel_rfl) hS (wanted_at rfl rfl (n7)) (fun z hz => by have e9 := n9; have f9 := n9.eval; unfold At at e9; have e11 := n11; have f11 := n11.eval; unfold At at e11; simp [go_sem, e9, e11, hc0, hmo]) (fun a' hI' n12' hk => ?_)
      replace n7 := hk _ _ n7 rfl
      replace n9 := hk _ _ n9 rfl
      replace n11 := hk _ _ n11 rfl
      have n12 := n12'
      replace hI := hI'
      clear hk hI' n12'
      obtain ⟨act9, rfl⟩ : ∃ x, x = a' := ⟨_, rfl⟩
      clear n9
      clear n11
      refine rest_take (k := 9) (d := 13) (v := .bool r2) hI rfl rfl (by kernel_rfl) (Nat.lt_of_le_of_lt (by decide) hsz) (by kernel_rfl) hpan (by kernel_rfl) hS (wanted_at rfl rfl (n7)) (fun z hz => by have e12 := n12; have f12 := n12.eval; unfold At at e12; have k1 := HR2.out; simp [go_sem, e12, k1]) (fun a' hI' n13' hk => ?_)
      replace n7 := hk _ _ n7 rfl
      replace n12 := hk _ _ n12 rfl
      have n13 := n13'
      replace hI := hI'
      clear hk hI' n13'
      obtain ⟨act9, rfl⟩ : ∃ x, x = a' := ⟨_, rfl⟩
      clear n12
      cases r2
      · refine rest_take (k := 10) (d := 14) (v := .bool false) hI rfl rfl (by kernel_rfl) (Nat.lt_of_le_of_lt (by decide) hsz) (by kernel_rfl) hpan (by kernel_rfl) hS (wanted_free rfl) (fun z hz => by have e7 := n7; have f7 := n7.eval; unfold At at e7; have e13 := n13; have f13 := n13.eval; unfold At at e13; simp [go_sem, e7, e13]) (fun a' hI' n14' hk => ?_)
        replace n7 := hk _ _ n7 rfl
        replace n13 := hk _ _ n13 rfl
        have n14 := n14'
        replace hI := hI'
        clear hk hI' n14'
        obtain ⟨act9, rfl⟩ : ∃ x, x = a' := ⟨_, rfl⟩
        refine rest_take (k := 11) (d := 15) (v := .bool false) hI rfl rfl (by kernel_rfl) (Nat.lt_of_le_of_lt (by decide) hsz) (by kernel_rfl) hpan (by kernel_rfl) hS (wanted_free rfl) (fun z hz => by have e14 := n14; have f14 := n14.eval; unfold At at e14; simp [go_sem, e14]) (fun a' hI' n15' hk => ?_)
        replace n7 := hk _ _ n7 rfl
        replace n13 := hk _ _ n13 rfl
        replace n14 := hk _ _ n14 rfl
        have n15 := n15'
        replace hI := hI'
        clear hk hI' n15'
        obtain ⟨act9, rfl⟩ : ∃ x, x = a' := ⟨_, rfl⟩
        clear n13
        clear n14
        refine rest_take (k := 12) (d := 16) (v := .pointer (some ⟨B, 0, none⟩)) hI rfl rfl (by kernel_rfl) (Nat.lt_of_le_of_lt (by decide) hsz) (by kernel_rfl) hpan (by kernel_rfl) hS (wanted_at rfl rfl (n15)) (fun z hz => by have n1 := hI.at m1 (by kernel_rfl); have e1 := n1; have f1 := n1.eval; unfold At at e1; simp [go_sem, e1]) (fun a' hI' n16' hk => ?_)
        replace n7 := hk _ _ n7 rfl
        replace n15 := hk _ _ n15 rfl
        have n16 := n16'
        replace hI := hI'
        clear hk hI' n16'
        obtain ⟨act9, rfl⟩ : ∃ x, x = a' := ⟨_, rfl⟩
        refine rest_take (k := 13) (d := 17) (v := .int .i64 m) hI rfl rfl (by kernel_rfl) (Nat.lt_of_le_of_lt (by decide) hsz) (by kernel_rfl) hpan (by kernel_rfl) hS (wanted_at rfl rfl (n15)) (fun z hz => by have e16 := n16; have f16 := n16.eval; unfold At at e16; have k0 := heap_cell hz.1 (j := 0) rfl; simp [go_sem, e16, k0]) (fun a' hI' n17' hk => ?_)
        replace n7 := hk _ _ n7 rfl
        replace n15 := hk _ _ n15 rfl
        replace n16 := hk _ _ n16 rfl
        have n17 := n17'
        replace hI := hI'
        clear hk hI' n17'
        obtain ⟨act9, rfl⟩ : ∃ x, x = a' := ⟨_, rfl⟩
        clear n16
        refine rest_take (k := 14) (d := 18) (v := .pointer (some ⟨w.heap.size, 0, none⟩)) hI rfl rfl (by kernel_rfl) (Nat.lt_of_le_of_lt (by decide) hsz) (by kernel_rfl) hpan (by kernel_rfl) hS (wanted_at rfl rfl (n15)) (fun z hz => by have n2 := hI.at m2 (by kernel_rfl); have e2 := n2; have f2 := n2.eval; unfold At at e2; simp [go_sem, e2]) (fun a' hI' n18' hk => ?_)
        replace n7 := hk _ _ n7 rfl
        replace n15 := hk _ _ n15 rfl
        replace n17 := hk _ _ n17 rfl
        have n18 := n18'
        replace hI := hI'
        clear hk hI' n18'
        obtain ⟨act9, rfl⟩ : ∃ x, x = a' := ⟨_, rfl⟩
        refine rest_take (k := 15) (d := 19) (v := .int .i64 c) hI rfl rfl (by kernel_rfl) (Nat.lt_of_le_of_lt (by decide) hsz) (by kernel_rfl) hpan (by kernel_rfl) hS (wanted_at rfl rfl (n15)) (fun z hz => by have e18 := n18; have f18 := n18.eval; unfold At at e18; have k0 := heap_cell hz.2 (j := 0) rfl; simp [go_sem, e18, k0]) (fun a' hI' n19' hk => ?_)
        replace n7 := hk _ _ n7 rfl
        replace n15 := hk _ _ n15 rfl
        replace n17 := hk _ _ n17 rfl
        replace n18 := hk _ _ n18 rfl
        have n19 := n19'
        replace hI := hI'
        clear hk hI' n19'
        obtain ⟨act9, rfl⟩ : ∃ x, x = a' := ⟨_, rfl⟩
        clear n18
        refine rest_take (k := 16) (d := 20) (v := .int .i64 dv) hI rfl rfl (by kernel_rfl) (Nat.lt_of_le_of_lt (by decide) hsz) (by kernel_rfl) hpan (by kernel_rfl) hS (wanted_at rfl rfl (n15)) (fun z hz => by have e17 := n17; have f17 := n17.eval; unfold At at e17; have e19 := n19; have f19 := n19.eval; unfold At at e19; simp [go_sem, e17, e19, hc0, hdi, hwd]) (fun a' hI' n20' hk => ?_)
        replace n7 := hk _ _ n7 rfl
        replace n15 := hk _ _ n15 rfl
        replace n17 := hk _ _ n17 rfl
        replace n19 := hk _ _ n19 rfl
        have n20 := n20'
        replace hI := hI'
        clear hk hI' n20'
        obtain ⟨act9, rfl⟩ : ∃ x, x = a' := ⟨_, rfl⟩
        clear n17
        clear n19
        refine rest_take (k := 17) (d := 21) (v := .int .i64 (dv - 1)) hI rfl rfl (by kernel_rfl) (Nat.lt_of_le_of_lt (by decide) hsz) (by kernel_rfl) hpan (by kernel_rfl) hS (wanted_at rfl rfl (n15)) (fun z hz => by have e20 := n20; have f20 := n20.eval; unfold At at e20; simp [go_sem, e20, hw1]) (fun a' hI' n21' hk => ?_)
        replace n7 := hk _ _ n7 rfl
        replace n15 := hk _ _ n15 rfl
        replace n20 := hk _ _ n20 rfl
        have n21 := n21'
        replace hI := hI'
        clear hk hI' n21'
        obtain ⟨act9, rfl⟩ : ∃ x, x = a' := ⟨_, rfl⟩
        clear n20
        refine rest_take (k := 18) (d := 22) (v := spanV 1 (dv - 1)) hI rfl rfl (by kernel_rfl) (Nat.lt_of_le_of_lt (by decide) hsz) (by kernel_rfl) hpan (by kernel_rfl) hS (wanted_at rfl rfl (n15)) (fun z hz => by have e21 := n21; have f21 := n21.eval; unfold At at e21; simp [go_sem, e21]) (fun a' hI' n22' hk => ?_)
        replace n7 := hk _ _ n7 rfl
        replace n15 := hk _ _ n15 rfl
        replace n21 := hk _ _ n21 rfl
        have n22 := n22'
        replace hI := hI'
        clear hk hI' n22'
        obtain ⟨act9, rfl⟩ : ∃ x, x = a' := ⟨_, rfl⟩
        clear n21
        refine rest_take (k := 19) (d := 23) (v := .pointer (some ⟨w.heap.size, 1, none⟩)) hI rfl rfl (by kernel_rfl) (Nat.lt_of_le_of_lt (by decide) hsz) (by kernel_rfl) hpan (by kernel_rfl) hS (wanted_at rfl rfl (n15)) (fun z hz => by have n2 := hI.at m2 (by kernel_rfl); have e2 := n2; have f2 := n2.eval; unfold At at e2; simp [go_sem, e2]) (fun a' hI' n23' hk => ?_)
        replace n7 := hk _ _ n7 rfl
        replace n15 := hk _ _ n15 rfl
        replace n22 := hk _ _ n22 rfl
        have n23 := n23'
        replace hI := hI'
        clear hk hI' n23'
        obtain ⟨act9, rfl⟩ : ∃ x, x = a' := ⟨_, rfl⟩
        refine rest_take (k := 20) (d := 24) (v := .int .i64 u) hI rfl rfl (by kernel_rfl) (Nat.lt_of_le_of_lt (by decide) hsz) (by kernel_rfl) hpan (by kernel_rfl) hS (wanted_at rfl rfl (n15)) (fun z hz => by have e23 := n23; have f23 := n23.eval; unfold At at e23; have k0 := heap_cell hz.2 (j := 1) rfl; simp [go_sem, e23, k0]) (fun a' hI' n24' hk => ?_)
        replace n7 := hk _ _ n7 rfl
        replace n15 := hk _ _ n15 rfl
        replace n22 := hk _ _ n22 rfl
        replace n23 := hk _ _ n23 rfl
        have n24 := n24'
        replace hI := hI'
        clear hk hI' n24'
        obtain ⟨act9, rfl⟩ : ∃ x, x = a' := ⟨_, rfl⟩
        clear n23
        have hn1 := below_new wz (.cells #[.int .i64 u] 3)
        have hcb := first_cell wz (.int .i64 u) 3 rfl
        have hq1 := below_thn hq hn1
        have hs1 := (And.intro (heap_lft hS.1 hn1) (heap_lft hS.2 hn1))
        obtain ⟨v1, hwe⟩ : ∃ x, wz.alloc (.cells #[.int .i64 u] 3) = x := ⟨_, rfl⟩
        rw [hwe] at hn1 hcb hq1 hs1
        refine rest_only (k := 21) (by kernel_rfl) (op_value (k := 21) (d := 25) (v := .slice (some ⟨wz.heap.size, 0, none⟩) 1 1) hI rfl rfl (by kernel_rfl) (Nat.lt_of_le_of_lt (by decide) hsz) (wanted_at rfl rfl (n15)) (by have e24 := n24; have f24 := n24.eval; unfold At at e24; simp [go_sem, e24]; try rfl) (fun a' hI' n25' hk => ⟨by rw [hwe]; exact hs1, ?_⟩))
        replace n7 := hk _ _ n7 rfl
        replace n15 := hk _ _ n15 rfl
        replace n22 := hk _ _ n22 rfl
        replace n24 := hk _ _ n24 rfl
        have n25 := n25'
        replace hI := hI'
        clear hk hI' n25'
        obtain ⟨act9, rfl⟩ : ∃ x, x = a' := ⟨_, rfl⟩
        rw [hwe]
        replace hS := hs1
        replace hq := hq1
        clear hwe hs1 hq1 hn1
        clear n24
        refine rest_only (k := 22) (by kernel_rfl) (op_call (k := 22) (d := 26) (R := fun v w' => v = .bool r3 ∧ w' = v1.alloc (spanB 1 (dv - 1))) hI rfl rfl (by kernel_rfl) (Nat.lt_of_le_of_lt (by decide) hsz) (wanted_at rfl rfl (n15)) ((within1 1 (dv - 1) u wz.heap.size 1 _ hcb r3 HR3.out).mono fun e w' g => ⟨_, g.1, rfl, g.2⟩) (by have e22 := n22; have f22 := n22.eval; unfold At at e22; have e25 := n25; have f25 := n25.eval; unfold At at e25; simp [go_sem, e22, e25]) ?_)
        intro v w' a' hR hI' n26' hk
        obtain ⟨rfl, rfl⟩ := hR
        refine ⟨(And.intro (heap_lft hS.1 (below_new _ _)) (heap_lft hS.2 (below_new _ _))), ?_⟩
        replace n7 := hk _ _ n7 rfl
        replace n15 := hk _ _ n15 rfl
        replace n22 := hk _ _ n22 rfl
        replace n25 := hk _ _ n25 rfl
        have n26 := n26'
        replace hI := hI'
        clear hk hI' n26'
        obtain ⟨act9, rfl⟩ : ∃ x, x = a' := ⟨_, rfl⟩
        replace hS := (And.intro (heap_lft hS.1 (below_new _ (spanB 1 (dv - 1)))) (heap_lft hS.2 (below_new _ (spanB 1 (dv - 1)))))
        replace hq := below_thn hq (below_new _ (spanB 1 (dv - 1)))
        clear hcb
        obtain ⟨v2, hwe⟩ : ∃ x, v1.alloc (spanB 1 (dv - 1)) = x := ⟨_, rfl⟩
        rw [hwe] at hS hq ⊢
        clear hwe
        clear n22
        clear n25
        cases r3
        · refine rest_take (k := 23) (d := 27) (v := .bool true) hI rfl rfl (by kernel_rfl) (Nat.lt_of_le_of_lt (by decide) hsz) (by kernel_rfl) hpan (by kernel_rfl) hS (wanted_at rfl rfl (n15)) (fun z hz => by have e26 := n26; have f26 := n26.eval; unfold At at e26; simp [go_sem, e26]) (fun a' hI' n27' hk => ?_)
          replace n7 := hk _ _ n7 rfl
          replace n15 := hk _ _ n15 rfl
          replace n26 := hk _ _ n26 rfl
          have n27 := n27'
          replace hI := hI'
          clear hk hI' n27'
          obtain ⟨act9, rfl⟩ : ∃ x, x = a' := ⟨_, rfl⟩
          refine rest_take (k := 24) (d := 28) (v := .bool true) hI rfl rfl (by kernel_rfl) (Nat.lt_of_le_of_lt (by decide) hsz) (by kernel_rfl) hpan (by kernel_rfl) hS (wanted_free rfl) (fun z hz => by have e15 := n15; have f15 := n15.eval; unfold At at e15; have e27 := n27; have f27 := n27.eval; unfold At at e27; simp [go_sem, e15, e27]) (fun a' hI' n28' hk => ?_)
          replace n7 := hk _ _ n7 rfl
          replace n15 := hk _ _ n15 rfl
          replace n26 := hk _ _ n26 rfl
          replace n27 := hk _ _ n27 rfl
          have n28 := n28'
          replace hI := hI'
          clear hk hI' n28'
          obtain ⟨act9, rfl⟩ : ∃ x, x = a' := ⟨_, rfl⟩
          refine rest_take (k := 25) (d := 3) (v := .bool true) hI rfl rfl (by kernel_rfl) (Nat.lt_of_le_of_lt (by decide) hsz) (by kernel_rfl) hpan (by kernel_rfl) hS (wanted_free rfl) (fun z hz => by have e28 := n28; have f28 := n28.eval; unfold At at e28; simp [go_sem, e28]) (fun a' hI' n3' hk => ?_)
          replace n7 := hk _ _ n7 rfl
          replace n15 := hk _ _ n15 rfl
          replace n26 := hk _ _ n26 rfl
          replace n27 := hk _ _ n27 rfl
          replace n28 := hk _ _ n28 rfl
          have n3 := n3'
          replace hI := hI'
          clear hk hI' n3'
          obtain ⟨act9, rfl⟩ : ∃ x, x = a' := ⟨_, rfl⟩
          refine rest_done (by kernel_rfl) ?_
          exact hfin _ _ hI n3 hq
        · refine rest_take (k := 23) (d := 27) (v := .bool false) hI rfl rfl (by kernel_rfl) (Nat.lt_of_le_of_lt (by decide) hsz) (by kernel_rfl) hpan (by kernel_rfl) hS (wanted_at rfl rfl (n15)) (fun z hz => by have e26 := n26; have f26 := n26.eval; unfold At at e26; simp [go_sem, e26]) (fun a' hI' n27' hk => ?_)
          replace n7 := hk _ _ n7 rfl
          replace n15 := hk _ _ n15 rfl
          replace n26 := hk _ _ n26 rfl
          have n27 := n27'
          replace hI := hI'
          clear hk hI' n27'
          obtain ⟨act9, rfl⟩ : ∃ x, x = a' := ⟨_, rfl⟩
          refine rest_take (k := 24) (d := 28) (v := .bool false) hI rfl rfl (by kernel_rfl) (Nat.lt_of_le_of_lt (by decide) hsz) (by kernel_rfl) hpan (by kernel_rfl) hS (wanted_free rfl) (fun z hz => by have e15 := n15; have f15 := n15.eval; unfold At at e15; have e27 := n27; have f27 := n27.eval; unfold At at e27; simp [go_sem, e15, e27]) (fun a' hI' n28' hk => ?_)
          replace n7 := hk _ _ n7 rfl
          replace n15 := hk _ _ n15 rfl
          replace n26 := hk _ _ n26 rfl
          replace n27 := hk _ _ n27 rfl
          have n28 := n28'
          replace hI := hI'
          clear hk hI' n28'
          obtain ⟨act9, rfl⟩ : ∃ x, x = a' := ⟨_, rfl⟩
          refine rest_take (k := 25) (d := 3) (v := .bool false) hI rfl rfl (by kernel_rfl) (Nat.lt_of_le_of_lt (by decide) hsz) (by kernel_rfl) hpan (by kernel_rfl) hS (wanted_free rfl) (fun z hz => by have e28 := n28; have f28 := n28.eval; unfold At at e28; simp [go_sem, e28]) (fun a' hI' n3' hk => ?_)
          replace n7 := hk _ _ n7 rfl
          replace n15 := hk _ _ n15 rfl
          replace n26 := hk _ _ n26 rfl
          replace n27 := hk _ _ n27 rfl
          replace n28 := hk _ _ n28 rfl
          have n3 := n3'
          replace hI := hI'
          clear hk hI' n3'
          obtain ⟨act9, rfl⟩ : ∃ x, x = a' := ⟨_, rfl⟩
          refine rest_done (by kernel_rfl) ?_
          exact hfin _ _ hI n3 hq
      · refine rest_take (k := 10) (d := 14) (v := .bool true) hI rfl rfl (by kernel_rfl) (Nat.lt_of_le_of_lt (by decide) hsz) (by kernel_rfl) hpan (by kernel_rfl) hS (wanted_free rfl) (fun z hz => by have e7 := n7; have f7 := n7.eval; unfold At at e7; have e13 := n13; have f13 := n13.eval; unfold At at e13; simp [go_sem, e7, e13]) (fun a' hI' n14' hk => ?_)
        replace n7 := hk _ _ n7 rfl
        replace n13 := hk _ _ n13 rfl
        have n14 := n14'
        replace hI := hI'
        clear hk hI' n14'
        obtain ⟨act9, rfl⟩ : ∃ x, x = a' := ⟨_, rfl⟩
        refine rest_take (k := 11) (d := 15) (v := .bool true) hI rfl rfl (by kernel_rfl) (Nat.lt_of_le_of_lt (by decide) hsz) (by kernel_rfl) hpan (by kernel_rfl) hS (wanted_free rfl) (fun z hz => by have e14 := n14; have f14 := n14.eval; unfold At at e14; simp [go_sem, e14]) (fun a' hI' n15' hk => ?_)
        replace n7 := hk _ _ n7 rfl
        replace n13 := hk _ _ n13 rfl
        replace n14 := hk _ _ n14 rfl
        have n15 := n15'
        replace hI := hI'
        clear hk hI' n15'
        obtain ⟨act9, rfl⟩ : ∃ x, x = a' := ⟨_, rfl⟩
        clear n13
        clear n14
        refine rest_skip (k := 12) (d := 16) hI rfl rfl (by kernel_rfl) (Nat.lt_of_le_of_lt (by decide) hsz) (by kernel_rfl) hpan (by kernel_rfl) hS (unwanted_at rfl rfl n15 rfl) (fun a' hI' n16' hk => ?_)
        replace n7 := hk _ _ n7 rfl
        replace n15 := hk _ _ n15 rfl
        have n16 := n16'
        replace hI := hI'
        clear hk hI' n16'
        obtain ⟨act9, rfl⟩ : ∃ x, x = a' := ⟨_, rfl⟩
        refine rest_skip (k := 13) (d := 17) hI rfl rfl (by kernel_rfl) (Nat.lt_of_le_of_lt (by decide) hsz) (by kernel_rfl) hpan (by kernel_rfl) hS (unwanted_at rfl rfl n15 rfl) (fun a' hI' n17' hk => ?_)
        replace n7 := hk _ _ n7 rfl
        replace n15 := hk _ _ n15 rfl
        replace n16 := hk _ _ n16 rfl
        have n17 := n17'
        replace hI := hI'
        clear hk hI' n17'
        obtain ⟨act9, rfl⟩ : ∃ x, x = a' := ⟨_, rfl⟩
        refine rest_skip (k := 14) (d := 18) hI rfl rfl (by kernel_rfl) (Nat.lt_of_le_of_lt (by decide) hsz) (by kernel_rfl) hpan (by kernel_rfl) hS (unwanted_at rfl rfl n15 rfl) (fun a' hI' n18' hk => ?_)
        replace n7 := hk _ _ n7 rfl
        replace n15 := hk _ _ n15 rfl
        replace n16 := hk _ _ n16 rfl
        replace n17 := hk _ _ n17 rfl
        have n18 := n18'
        replace hI := hI'
        clear hk hI' n18'
        obtain ⟨act9, rfl⟩ : ∃ x, x = a' := ⟨_, rfl⟩
        refine rest_skip (k := 15) (d := 19) hI rfl rfl (by kernel_rfl) (Nat.lt_of_le_of_lt (by decide) hsz) (by kernel_rfl) hpan (by kernel_rfl) hS (unwanted_at rfl rfl n15 rfl) (fun a' hI' n19' hk => ?_)
        replace n7 := hk _ _ n7 rfl
        replace n15 := hk _ _ n15 rfl
        replace n16 := hk _ _ n16 rfl
        replace n17 := hk _ _ n17 rfl
        replace n18 := hk _ _ n18 rfl
        have n19 := n19'
        replace hI := hI'
        clear hk hI' n19'
        obtain ⟨act9, rfl⟩ : ∃ x, x = a' := ⟨_, rfl⟩
        refine rest_skip (k := 16) (d := 20) hI rfl rfl (by kernel_rfl) (Nat.lt_of_le_of_lt (by decide) hsz) (by kernel_rfl) hpan (by kernel_rfl) hS (unwanted_at rfl rfl n15 rfl) (fun a' hI' n20' hk => ?_)
        replace n7 := hk _ _ n7 rfl
        replace n15 := hk _ _ n15 rfl
        replace n16 := hk _ _ n16 rfl
        replace n17 := hk _ _ n17 rfl
        replace n18 := hk _ _ n18 rfl
        replace n19 := hk _ _ n19 rfl
        have n20 := n20'
        replace hI := hI'
        clear hk hI' n20'
        obtain ⟨act9, rfl⟩ : ∃ x, x = a' := ⟨_, rfl⟩
        refine rest_skip (k := 17) (d := 21) hI rfl rfl (by kernel_rfl) (Nat.lt_of_le_of_lt (by decide) hsz) (by kernel_rfl) hpan (by kernel_rfl) hS (unwanted_at rfl rfl n15 rfl) (fun a' hI' n21' hk => ?_)
        replace n7 := hk _ _ n7 rfl
        replace n15 := hk _ _ n15 rfl
        replace n16 := hk _ _ n16 rfl
        replace n17 := hk _ _ n17 rfl
        replace n18 := hk _ _ n18 rfl
        replace n19 := hk _ _ n19 rfl
        replace n20 := hk _ _ n20 rfl
        have n21 := n21'
        replace hI := hI'
        clear hk hI' n21'
        obtain ⟨act9, rfl⟩ : ∃ x, x = a' := ⟨_, rfl⟩
        refine rest_skip (k := 18) (d := 22) hI rfl rfl (by kernel_rfl) (Nat.lt_of_le_of_lt (by decide) hsz) (by kernel_rfl) hpan (by kernel_rfl) hS (unwanted_at rfl rfl n15 rfl) (fun a' hI' n22' hk => ?_)
        replace n7 := hk _ _ n7 rfl
        replace n15 := hk _ _ n15 rfl
        replace n16 := hk _ _ n16 rfl
        replace n17 := hk _ _ n17 rfl
        replace n18 := hk _ _ n18 rfl
        replace n19 := hk _ _ n19 rfl
        replace n20 := hk _ _ n20 rfl
        replace n21 := hk _ _ n21 rfl
        have n22 := n22'
        replace hI := hI'
        clear hk hI' n22'
        obtain ⟨act9, rfl⟩ : ∃ x, x = a' := ⟨_, rfl⟩
        refine rest_skip (k := 19) (d := 23) hI rfl rfl (by kernel_rfl) (Nat.lt_of_le_of_lt (by decide) hsz) (by kernel_rfl) hpan (by kernel_rfl) hS (unwanted_at rfl rfl n15 rfl) (fun a' hI' n23' hk => ?_)
        replace n7 := hk _ _ n7 rfl
        replace n15 := hk _ _ n15 rfl
        replace n16 := hk _ _ n16 rfl
        replace n17 := hk _ _ n17 rfl
        replace n18 := hk _ _ n18 rfl
        replace n19 := hk _ _ n19 rfl
        replace n20 := hk _ _ n20 rfl
        replace n21 := hk _ _ n21 rfl
        replace n22 := hk _ _ n22 rfl
        have n23 := n23'
        replace hI := hI'
        clear hk hI' n23'
        obtain ⟨act9, rfl⟩ : ∃ x, x = a' := ⟨_, rfl⟩
        refine rest_skip (k := 20) (d := 24) hI rfl rfl (by kernel_rfl) (Nat.lt_of_le_of_lt (by decide) hsz) (by kernel_rfl) hpan (by kernel_rfl) hS (unwanted_at rfl rfl n15 rfl) (fun a' hI' n24' hk => ?_)
        replace n7 := hk _ _ n7 rfl
        replace n15 := hk _ _ n15 rfl
        replace n16 := hk _ _ n16 rfl
        replace n17 := hk _ _ n17 rfl
        replace n18 := hk _ _ n18 rfl
        replace n19 := hk _ _ n19 rfl
        replace n20 := hk _ _ n20 rfl
        replace n21 := hk _ _ n21 rfl
        replace n22 := hk _ _ n22 rfl
        replace n23 := hk _ _ n23 rfl
        have n24 := n24'
        replace hI := hI'
        clear hk hI' n24'
        obtain ⟨act9, rfl⟩ : ∃ x, x = a' := ⟨_, rfl⟩
        refine rest_skip (k := 21) (d := 25) hI rfl rfl (by kernel_rfl) (Nat.lt_of_le_of_lt (by decide) hsz) (by kernel_rfl) hpan (by kernel_rfl) hS (unwanted_at rfl rfl n15 rfl) (fun a' hI' n25' hk => ?_)
        replace n7 := hk _ _ n7 rfl
        replace n15 := hk _ _ n15 rfl
        replace n16 := hk _ _ n16 rfl
        replace n17 := hk _ _ n17 rfl
        replace n18 := hk _ _ n18 rfl
        replace n19 := hk _ _ n19 rfl
        replace n20 := hk _ _ n20 rfl
        replace n21 := hk _ _ n21 rfl
        replace n22 := hk _ _ n22 rfl
        replace n23 := hk _ _ n23 rfl
        replace n24 := hk _ _ n24 rfl
        have n25 := n25'
        replace hI := hI'
        clear hk hI' n25'
        obtain ⟨act9, rfl⟩ : ∃ x, x = a' := ⟨_, rfl⟩
        refine rest_skip (k := 22) (d := 26) hI rfl rfl (by kernel_rfl) (Nat.lt_of_le_of_lt (by decide) hsz) (by kernel_rfl) hpan (by kernel_rfl) hS (unwanted_at rfl rfl n15 rfl) (fun a' hI' n26' hk => ?_)
        replace n7 := hk _ _ n7 rfl
        replace n15 := hk _ _ n15 rfl
        replace n16 := hk _ _ n16 rfl
        replace n17 := hk _ _ n17 rfl
        replace n18 := hk _ _ n18 rfl
        replace n19 := hk _ _ n19 rfl
        replace n20 := hk _ _ n20 rfl
        replace n21 := hk _ _ n21 rfl
        replace n22 := hk _ _ n22 rfl
        replace n23 := hk _ _ n23 rfl
        replace n24 := hk _ _ n24 rfl
        replace n25 := hk _ _ n25 rfl
        have n26 := n26'
        replace hI := hI'
        clear hk hI' n26'
        obtain ⟨act9, rfl⟩ : ∃ x, x = a' := ⟨_, rfl⟩
        refine rest_skip (k := 23) (d := 27) hI rfl rfl (by kernel_rfl) (Nat.lt_of_le_of_lt (by decide) hsz) (by kernel_rfl) hpan (by kernel_rfl) hS (unwanted_at rfl rfl n15 rfl) (fun a' hI' n27' hk => ?_)
        replace n7 := hk _ _ n7 rfl
        replace n15 := hk _ _ n15 rfl
        replace n16 := hk _ _ n16 rfl
        replace n17 := hk _ _ n17 rfl
        replace n18 := hk _ _ n18 rfl
        replace n19 := hk _ _ n19 rfl
        replace n20 := hk _ _ n20 rfl
        replace n21 := hk _ _ n21 rfl
        replace n22 := hk _ _ n22 rfl
        replace n23 := hk _ _ n23 rfl
        replace n24 := hk _ _ n24 rfl
        replace n25 := hk _ _ n25 rfl
        replace n26 := hk _ _ n26 rfl
        have n27 := n27'
        replace hI := hI'
        clear hk hI' n27'
        obtain ⟨act9, rfl⟩ : ∃ x, x = a' := ⟨_, rfl⟩
        refine rest_take (k := 24) (d := 28) (v := .bool true) hI rfl rfl (by kernel_rfl) (Nat.lt_of_le_of_lt (by decide) hsz) (by kernel_rfl) hpan (by kernel_rfl) hS (wanted_free rfl) (fun z hz => by have e15 := n15; have f15 := n15.eval; unfold At at e15; simp [go_sem, e15]) (fun a' hI' n28' hk => ?_)
        replace n7 := hk _ _ n7 rfl
        replace n15 := hk _ _ n15 rfl
        replace n16 := hk _ _ n16 rfl
        replace n17 := hk _ _ n17 rfl
        replace n18 := hk _ _ n18 rfl
        replace n19 := hk _ _ n19 rfl
        replace n20 := hk _ _ n20 rfl
        replace n21 := hk _ _ n21 rfl
        replace n22 := hk _ _ n22 rfl
        replace n23 := hk _ _ n23 rfl
        replace n24 := hk _ _ n24 rfl
        replace n25 := hk _ _ n25 rfl
        replace n26 := hk _ _ n26 rfl
        replace n27 := hk _ _ n27 rfl
        have n28 := n28'
        replace hI := hI'
        clear hk hI' n28'
        obtain ⟨act9, rfl⟩ : ∃ x, x = a' := ⟨_, rfl⟩
        refine rest_take (k := 25) (d := 3) (v := .bool true) hI rfl rfl (by kernel_rfl) (Nat.lt_of_le_of_lt (by decide) hsz) (by kernel_rfl) hpan (by kernel_rfl) hS (wanted_free rfl) (fun z hz => by have e28 := n28; have f28 := n28.eval; unfold At at e28; simp [go_sem, e28]) (fun a' hI' n3' hk => ?_)
        replace n7 := hk _ _ n7 rfl
        replace n15 := hk _ _ n15 rfl
        replace n16 := hk _ _ n16 rfl
        replace n17 := hk _ _ n17 rfl
        replace n18 := hk _ _ n18 rfl
        replace n19 := hk _ _ n19 rfl
        replace n20 := hk _ _ n20 rfl
        replace n21 := hk _ _ n21 rfl
        replace n22 := hk _ _ n22 rfl
        replace n23 := hk _ _ n23 rfl
        replace n24 := hk _ _ n24 rfl
        replace n25 := hk _ _ n25 rfl
        replace n26 := hk _ _ n26 rfl
        replace n27 := hk _ _ n27 rfl
        replace n28 := hk _ _ n28 rfl
        have n3 := n3'
        replace hI := hI'
        clear hk hI' n3'
        obtain ⟨act9, rfl⟩ : ∃ x, x = a' := ⟨_, rfl⟩
        refine rest_done (by kernel_rfl) ?_
        exact hfin _ _ hI n3 hq
    · refine rest_take (k := 3) (d := 7) (v := .bool true) hI rfl rfl (by kernel_rfl) (Nat.lt_of_le_of_lt (by decide) hsz) (by kernel_rfl) hpan (by kernel_rfl) hS (wanted_free rfl) (fun z hz => by have e6 := n6; have f6 := n6.eval; unfold At at e6; simp [go_sem, e6]) (fun a' hI' n7' hk => ?_)
      replace n6 := hk _ _ n6 rfl
      have n7 := n7'
      replace hI := hI'
      clear hk hI' n7'
      obtain ⟨act9, rfl⟩ : ∃ x, x = a' := ⟨_, rfl⟩
      refine rest_skip (k := 4) (d := 8) hI rfl rfl (by kernel_rfl) (Nat.lt_of_le_of_lt (by decide) hsz) (by kernel_rfl) hpan (by kernel_rfl) hS (unwanted_at rfl rfl n7 rfl) (fun a' hI' n8' hk => ?_)
      replace n6 := hk _ _ n6 rfl
      replace n7 := hk _ _ n7 rfl
      have n8 := n8'
      replace hI := hI'
      clear hk hI' n8'
      obtain ⟨act9, rfl⟩ : ∃ x, x = a' := ⟨_, rfl⟩
      refine rest_skip (k := 5) (d := 9) hI rfl rfl (by kernel_rfl) (Nat.lt_of_le_of_lt (by decide) hsz) (by kernel_rfl) hpan (by kernel_rfl) hS (unwanted_at rfl rfl n7 rfl) (fun a' hI' n9' hk => ?_)
      replace n6 := hk _ _ n6 rfl
      replace n7 := hk _ _ n7 rfl
      replace n8 := hk _ _ n8 rfl
      have n9 := n9'
      replace hI := hI'
      clear hk hI' n9'
      obtain ⟨act9, rfl⟩ : ∃ x, x = a' := ⟨_, rfl⟩
      refine rest_skip (k := 6) (d := 10) hI rfl rfl (by kernel_rfl) (Nat.lt_of_le_of_lt (by decide) hsz) (by kernel_rfl) hpan (by kernel_rfl) hS (unwanted_at rfl rfl n7 rfl) (fun a' hI' n10' hk => ?_)
      replace n6 := hk _ _ n6 rfl
      replace n7 := hk _ _ n7 rfl
      replace n8 := hk _ _ n8 rfl
      replace n9 := hk _ _ n9 rfl
      have n10 := n10'
      replace hI := hI'
      clear hk hI' n10'
      obtain ⟨act9, rfl⟩ : ∃ x, x = a' := ⟨_, rfl⟩
      refine rest_skip (k := 7) (d := 11) hI rfl rfl (by kernel_rfl) (Nat.lt_of_le_of_lt (by decide) hsz) (by kernel_rfl) hpan (by kernel_rfl) hS (unwanted_at rfl rfl n7 rfl) (fun a' hI' n11' hk => ?_)
      replace n6 := hk _ _ n6 rfl
      replace n7 := hk _ _ n7 rfl
      replace n8 := hk _ _ n8 rfl
      replace n9 := hk _ _ n9 rfl
      replace n10 := hk _ _ n10 rfl
      have n11 := n11'
      replace hI := hI'
      clear hk hI' n11'
      obtain ⟨act9, rfl⟩ : ∃ x, x = a' := ⟨_, rfl⟩
      refine rest_skip (k := 8) (d := 12) hI rfl rfl (by kernel_rfl) (Nat.lt_of_le_of_lt (by decide) hsz) (by kernel_rfl) hpan (by kernel_rfl) hS (unwanted_at rfl rfl n7 rfl) (fun a' hI' n12' hk => ?_)
      replace n6 := hk _ _ n6 rfl
      replace n7 := hk _ _ n7 rfl
      replace n8 := hk _ _ n8 rfl
      replace n9 := hk _ _ n9 rfl
      replace n10 := hk _ _ n10 rfl
      replace n11 := hk _ _ n11 rfl
      have n12 := n12'
      replace hI := hI'
      clear hk hI' n12'
      obtain ⟨act9, rfl⟩ : ∃ x, x = a' := ⟨_, rfl⟩
      refine rest_skip (k := 9) (d := 13) hI rfl rfl (by kernel_rfl) (Nat.lt_of_le_of_lt (by decide) hsz) (by kernel_rfl) hpan (by kernel_rfl) hS (unwanted_at rfl rfl n7 rfl) (fun a' hI' n13' hk => ?_)
      replace n6 := hk _ _ n6 rfl
      replace n7 := hk _ _ n7 rfl
      replace n8 := hk _ _ n8 rfl
      replace n9 := hk _ _ n9 rfl
      replace n10 := hk _ _ n10 rfl
      replace n11 := hk _ _ n11 rfl
      replace n12 := hk _ _ n12 rfl
      have n13 := n13'
      replace hI := hI'
      clear hk hI' n13'
      obtain ⟨act9, rfl⟩ : ∃ x, x = a' := ⟨_, rfl⟩
      refine rest_take (k := 10) (d := 14) (v := .bool true) hI rfl rfl (by kernel_rfl) (Nat.lt_of_le_of_lt (by decide) hsz) (by kernel_rfl) hpan (by kernel_rfl) hS (wanted_free rfl) (fun z hz => by have e7 := n7; have f7 := n7.eval; unfold At at e7; simp [go_sem, e7]) (fun a' hI' n14' hk => ?_)
      replace n6 := hk _ _ n6 rfl
      replace n7 := hk _ _ n7 rfl
      replace n8 := hk _ _ n8 rfl
      replace n9 := hk _ _ n9 rfl
      replace n10 := hk _ _ n10 rfl
      replace n11 := hk _ _ n11 rfl
      replace n12 := hk _ _ n12 rfl
      replace n13 := hk _ _ n13 rfl
      have n14 := n14'
      replace hI := hI'
      clear hk hI' n14'
      obtain ⟨act9, rfl⟩ : ∃ x, x = a' := ⟨_, rfl⟩
      refine rest_take (k := 11) (d := 15) (v := .bool true) hI rfl rfl (by kernel_rfl) (Nat.lt_of_le_of_lt (by decide) hsz) (by kernel_rfl) hpan (by kernel_rfl) hS (wanted_free rfl) (fun z hz => by have e14 := n14; have f14 := n14.eval; unfold At at e14; simp [go_sem, e14]) (fun a' hI' n15' hk => ?_)
      replace n6 := hk _ _ n6 rfl
      replace n7 := hk _ _ n7 rfl
      replace n8 := hk _ _ n8 rfl
      replace n9 := hk _ _ n9 rfl
      replace n10 := hk _ _ n10 rfl
      replace n11 := hk _ _ n11 rfl
      replace n12 := hk _ _ n12 rfl
      replace n13 := hk _ _ n13 rfl
      replace n14 := hk _ _ n14 rfl
      have n15 := n15'
      replace hI := hI'
      clear hk hI' n15'
      obtain ⟨act9, rfl⟩ : ∃ x, x = a' := ⟨_, rfl⟩
      refine rest_skip (k := 12) (d := 16) hI rfl rfl (by kernel_rfl) (Nat.lt_of_le_of_lt (by decide) hsz) (by kernel_rfl) hpan (by kernel_rfl) hS (unwanted_at rfl rfl n15 rfl) (fun a' hI' n16' hk => ?_)
      replace n6 := hk _ _ n6 rfl
      replace n7 := hk _ _ n7 rfl
      replace n8 := hk _ _ n8 rfl
      replace n9 := hk _ _ n9 rfl
      replace n10 := hk _ _ n10 rfl
      replace n11 := hk _ _ n11 rfl
      replace n12 := hk _ _ n12 rfl
      replace n13 := hk _ _ n13 rfl
      replace n14 := hk _ _ n14 rfl
      replace n15 := hk _ _ n15 rfl
      have n16 := n16'
      replace hI := hI'
      clear hk hI' n16'
      obtain ⟨act9, rfl⟩ : ∃ x, x = a' := ⟨_, rfl⟩
      refine rest_skip (k := 13) (d := 17) hI rfl rfl (by kernel_rfl) (Nat.lt_of_le_of_lt (by decide) hsz) (by kernel_rfl) hpan (by kernel_rfl) hS (unwanted_at rfl rfl n15 rfl) (fun a' hI' n17' hk => ?_)
      replace n6 := hk _ _ n6 rfl
      replace n7 := hk _ _ n7 rfl
      replace n8 := hk _ _ n8 rfl
      replace n9 := hk _ _ n9 rfl
      replace n10 := hk _ _ n10 rfl
      replace n11 := hk _ _ n11 rfl
      replace n12 := hk _ _ n12 rfl
      replace n13 := hk _ _ n13 rfl
      replace n14 := hk _ _ n14 rfl
      replace n15 := hk _ _ n15 rfl
      replace n16 := hk _ _ n16 rfl
      have n17 := n17'
      replace hI := hI'
      clear hk hI' n17'
      obtain ⟨act9, rfl⟩ : ∃ x, x = a' := ⟨_, rfl⟩
      refine rest_skip (k := 14) (d := 18) hI rfl rfl (by kernel_rfl) (Nat.lt_of_le_of_lt (by decide) hsz) (by kernel_rfl) hpan (by kernel_rfl) hS (unwanted_at rfl rfl n15 rfl) (fun a' hI' n18' hk => ?_)
      replace n6 := hk _ _ n6 rfl
      replace n7 := hk _ _ n7 rfl
      replace n8 := hk _ _ n8 rfl
      replace n9 := hk _ _ n9 rfl
      replace n10 := hk _ _ n10 rfl
      replace n11 := hk _ _ n11 rfl
      replace n12 := hk _ _ n12 rfl
      replace n13 := hk _ _ n13 rfl
      replace n14 := hk _ _ n14 rfl
      replace n15 := hk _ _ n15 rfl
      replace n16 := hk _ _ n16 rfl
      replace n17 := hk _ _ n17 rfl
      have n18 := n18'
      replace hI := hI'
      clear hk hI' n18'
      obtain ⟨act9, rfl⟩ : ∃ x, x = a' := ⟨_, rfl⟩
      refine rest_skip (k := 15) (d := 19) hI rfl rfl (by kernel_rfl) (Nat.lt_of_le_of_lt (by decide) hsz) (by kernel_rfl) hpan (by kernel_rfl) hS (unwanted_at rfl rfl n15 rfl) (fun a' hI' n19' hk => ?_)
      replace n6 := hk _ _ n6 rfl
      replace n7 := hk _ _ n7 rfl
      replace n8 := hk _ _ n8 rfl
      replace n9 := hk _ _ n9 rfl
      replace n10 := hk _ _ n10 rfl
      replace n11 := hk _ _ n11 rfl
      replace n12 := hk _ _ n12 rfl
      replace n13 := hk _ _ n13 rfl
      replace n14 := hk _ _ n14 rfl
      replace n15 := hk _ _ n15 rfl
      replace n16 := hk _ _ n16 rfl
      replace n17 := hk _ _ n17 rfl
      replace n18 := hk _ _ n18 rfl
      have n19 := n19'
      replace hI := hI'
      clear hk hI' n19'
      obtain ⟨act9, rfl⟩ : ∃ x, x = a' := ⟨_, rfl⟩
      refine rest_skip (k := 16) (d := 20) hI rfl rfl (by kernel_rfl) (Nat.lt_of_le_of_lt (by decide) hsz) (by kernel_rfl) hpan (by kernel_rfl) hS (unwanted_at rfl rfl n15 rfl) (fun a' hI' n20' hk => ?_)
      replace n6 := hk _ _ n6 rfl
      replace n7 := hk _ _ n7 rfl
      replace n8 := hk _ _ n8 rfl
      replace n9 := hk _ _ n9 rfl
      replace n10 := hk _ _ n10 rfl
      replace n11 := hk _ _ n11 rfl
      replace n12 := hk _ _ n12 rfl
      replace n13 := hk _ _ n13 rfl
      replace n14 := hk _ _ n14 rfl
      replace n15 := hk _ _ n15 rfl
      replace n16 := hk _ _ n16 rfl
      replace n17 := hk _ _ n17 rfl
      replace n18 := hk _ _ n18 rfl
      replace n19 := hk _ _ n19 rfl
      have n20 := n20'
      replace hI := hI'
      clear hk hI' n20'
      obtain ⟨act9, rfl⟩ : ∃ x, x = a' := ⟨_, rfl⟩
      refine rest_skip (k := 17) (d := 21) hI rfl rfl (by kernel_rfl) (Nat.lt_of_le_of_lt (by decide) hsz) (by kernel_rfl) hpan (by kernel_rfl) hS (unwanted_at rfl rfl n15 rfl) (fun a' hI' n21' hk => ?_)
      replace n6 := hk _ _ n6 rfl
      replace n7 := hk _ _ n7 rfl
      replace n8 := hk _ _ n8 rfl
      replace n9 := hk _ _ n9 rfl
      replace n10 := hk _ _ n10 rfl
      replace n11 := hk _ _ n11 rfl
      replace n12 := hk _ _ n12 rfl
      replace n13 := hk _ _ n13 rfl
      replace n14 := hk _ _ n14 rfl
      replace n15 := hk _ _ n15 rfl
      replace n16 := hk _ _ n16 rfl
      replace n17 := hk _ _ n17 rfl
      replace n18 := hk _ _ n18 rfl
      replace n19 := hk _ _ n19 rfl
      replace n20 := hk _ _ n20 rfl
      have n21 := n21'
      replace hI := hI'
      clear hk hI' n21'
      obtain ⟨act9, rfl⟩ : ∃ x, x = a' := ⟨_, rfl⟩
      refine rest_skip (k := 18) (d := 22) hI rfl rfl (by kernel_rfl) (Nat.lt_of_le_of_lt (by decide) hsz) (by kernel_rfl) hpan (by kernel_rfl) hS (unwanted_at rfl rfl n15 rfl) (fun a' hI' n22' hk => ?_)
      replace n6 := hk _ _ n6 rfl
      replace n7 := hk _ _ n7 rfl
      replace n8 := hk _ _ n8 rfl
      replace n9 := hk _ _ n9 rfl
      replace n10 := hk _ _ n10 rfl
      replace n11 := hk _ _ n11 rfl
      replace n12 := hk _ _ n12 rfl
      replace n13 := hk _ _ n13 rfl
      replace n14 := hk _ _ n14 rfl
      replace n15 := hk _ _ n15 rfl
      replace n16 := hk _ _ n16 rfl
      replace n17 := hk _ _ n17 rfl
      replace n18 := hk _ _ n18 rfl
      replace n19 := hk _ _ n19 rfl
      replace n20 := hk _ _ n20 rfl
      replace n21 := hk _ _ n21 rfl
      have n22 := n22'
      replace hI := hI'
      clear hk hI' n22'
      obtain ⟨act9, rfl⟩ : ∃ x, x = a' := ⟨_, rfl⟩
      refine rest_skip (k := 19) (d := 23) hI rfl rfl (by kernel_rfl) (Nat.lt_of_le_of_lt (by decide) hsz) (by kernel_rfl) hpan (by kernel_rfl) hS (unwanted_at rfl rfl n15 rfl) (fun a' hI' n23' hk => ?_)
      replace n6 := hk _ _ n6 rfl
      replace n7 := hk _ _ n7 rfl
      replace n8 := hk _ _ n8 rfl
      replace n9 := hk _ _ n9 rfl
      replace n10 := hk _ _ n10 rfl
      replace n11 := hk _ _ n11 rfl
      replace n12 := hk _ _ n12 rfl
      replace n13 := hk _ _ n13 rfl
      replace n14 := hk _ _ n14 rfl
      replace n15 := hk _ _ n15 rfl
      replace n16 := hk _ _ n16 rfl
      replace n17 := hk _ _ n17 rfl
      replace n18 := hk _ _ n18 rfl
      replace n19 := hk _ _ n19 rfl
      replace n20 := hk _ _ n20 rfl
      replace n21 := hk _ _ n21 rfl
      replace n22 := hk _ _ n22 rfl
      have n23 := n23'
      replace hI := hI'
      clear hk hI' n23'
      obtain ⟨act9, rfl⟩ : ∃ x, x = a' := ⟨_, rfl⟩
      refine rest_skip (k := 20) (d := 24) hI rfl rfl (by kernel_rfl) (Nat.lt_of_le_of_lt (by decide) hsz) (by kernel_rfl) hpan (by kernel_rfl) hS (unwanted_at rfl rfl n15 rfl) (fun a' hI' n24' hk => ?_)
      replace n6 := hk _ _ n6 rfl
      replace n7 := hk _ _ n7 rfl
      replace n8 := hk _ _ n8 rfl
      replace n9 := hk _ _ n9 rfl
      replace n10 := hk _ _ n10 rfl
      replace n11 := hk _ _ n11 rfl
      replace n12 := hk _ _ n12 rfl
      replace n13 := hk _ _ n13 rfl
      replace n14 := hk _ _ n14 rfl
      replace n15 := hk _ _ n15 rfl
      replace n16 := hk _ _ n16 rfl
      replace n17 := hk _ _ n17 rfl
      replace n18 := hk _ _ n18 rfl
      replace n19 := hk _ _ n19 rfl
      replace n20 := hk _ _ n20 rfl
      replace n21 := hk _ _ n21 rfl
      replace n22 := hk _ _ n22 rfl
      replace n23 := hk _ _ n23 rfl
      have n24 := n24'
      replace hI := hI'
      clear hk hI' n24'
      obtain ⟨act9, rfl⟩ : ∃ x, x = a' := ⟨_, rfl⟩
      refine rest_skip (k := 21) (d := 25) hI rfl rfl (by kernel_rfl) (Nat.lt_of_le_of_lt (by decide) hsz) (by kernel_rfl) hpan (by kernel_rfl) hS (unwanted_at rfl rfl n15 rfl) (fun a' hI' n25' hk => ?_)
      replace n6 := hk _ _ n6 rfl
      replace n7 := hk _ _ n7 rfl
      replace n8 := hk _ _ n8 rfl
      replace n9 := hk _ _ n9 rfl
      replace n10 := hk _ _ n10 rfl
      replace n11 := hk _ _ n11 rfl
      replace n12 := hk _ _ n12 rfl
      replace n13 := hk _ _ n13 rfl
      replace n14 := hk _ _ n14 rfl
      replace n15 := hk _ _ n15 rfl
      replace n16 := hk _ _ n16 rfl
      replace n17 := hk _ _ n17 rfl
      replace n18 := hk _ _ n18 rfl
      replace n19 := hk _ _ n19 rfl
      replace n20 := hk _ _ n20 rfl
      replace n21 := hk _ _ n21 rfl
      replace n22 := hk _ _ n22 rfl
      replace n23 := hk _ _ n23 rfl
      replace n24 := hk _ _ n24 rfl
      have n25 := n25'
      replace hI := hI'
      clear hk hI' n25'
      obtain ⟨act9, rfl⟩ : ∃ x, x = a' := ⟨_, rfl⟩
      refine rest_skip (k := 22) (d := 26) hI rfl rfl (by kernel_rfl) (Nat.lt_of_le_of_lt (by decide) hsz) (by kernel_rfl) hpan (by kernel_rfl) hS (unwanted_at rfl rfl n15 rfl) (fun a' hI' n26' hk => ?_)
      replace n6 := hk _ _ n6 rfl
      replace n7 := hk _ _ n7 rfl
      replace n8 := hk _ _ n8 rfl
      replace n9 := hk _ _ n9 rfl
      replace n10 := hk _ _ n10 rfl
      replace n11 := hk _ _ n11 rfl
      replace n12 := hk _ _ n12 rfl
      replace n13 := hk _ _ n13 rfl
      replace n14 := hk _ _ n14 rfl
      replace n15 := hk _ _ n15 rfl
      replace n16 := hk _ _ n16 rfl
      replace n17 := hk _ _ n17 rfl
      replace n18 := hk _ _ n18 rfl
      replace n19 := hk _ _ n19 rfl
      replace n20 := hk _ _ n20 rfl
      replace n21 := hk _ _ n21 rfl
      replace n22 := hk _ _ n22 rfl
      replace n23 := hk _ _ n23 rfl
      replace n24 := hk _ _ n24 rfl
      replace n25 := hk _ _ n25 rfl
      have n26 := n26'
      replace hI := hI'
      clear hk hI' n26'
      obtain ⟨act9, rfl⟩ : ∃ x, x = a' := ⟨_, rfl⟩
      refine rest_skip (k := 23) (d := 27) hI rfl rfl (by kernel_rfl) (Nat.lt_of_le_of_lt (by decide) hsz) (by kernel_rfl) hpan (by kernel_rfl) hS (unwanted_at rfl rfl n15 rfl) (fun a' hI' n27' hk => ?_)
      replace n6 := hk _ _ n6 rfl
      replace n7 := hk _ _ n7 rfl
      replace n8 := hk _ _ n8 rfl
      replace n9 := hk _ _ n9 rfl
      replace n10 := hk _ _ n10 rfl
      replace n11 := hk _ _ n11 rfl
      replace n12 := hk _ _ n12 rfl
      replace n13 := hk _ _ n13 rfl
      replace n14 := hk _ _ n14 rfl
      replace n15 := hk _ _ n15 rfl
      replace n16 := hk _ _ n16 rfl
      replace n17 := hk _ _ n17 rfl
      replace n18 := hk _ _ n18 rfl
      replace n19 := hk _ _ n19 rfl
      replace n20 := hk _ _ n20 rfl
      replace n21 := hk _ _ n21 rfl
      replace n22 := hk _ _ n22 rfl
      replace n23 := hk _ _ n23 rfl
      replace n24 := hk _ _ n24 rfl
      replace n25 := hk _ _ n25 rfl
      replace n26 := hk _ _ n26 rfl
      have n27 := n27'
      replace hI := hI'
      clear hk hI' n27'
      obtain ⟨act9, rfl⟩ : ∃ x, x = a' := ⟨_, rfl⟩
      refine rest_take (k := 24) (d := 28) (v := .bool true) hI rfl rfl (by kernel_rfl) (Nat.lt_of_le_of_lt (by decide) hsz) (by kernel_rfl) hpan (by kernel_rfl) hS (wanted_free rfl) (fun z hz => by have e15 := n15; have f15 := n15.eval; unfold At at e15; simp [go_sem, e15]) (fun a' hI' n28' hk => ?_)
      replace n6 := hk _ _ n6 rfl
      replace n7 := hk _ _ n7 rfl
      replace n8 := hk _ _ n8 rfl
      replace n9 := hk _ _ n9 rfl
      replace n10 := hk _ _ n10 rfl
      replace n11 := hk _ _ n11 rfl
      replace n12 := hk _ _ n12 rfl
      replace n13 := hk _ _ n13 rfl
      replace n14 := hk _ _ n14 rfl
      replace n15 := hk _ _ n15 rfl
      replace n16 := hk _ _ n16 rfl
      replace n17 := hk _ _ n17 rfl
      replace n18 := hk _ _ n18 rfl
      replace n19 := hk _ _ n19 rfl
      replace n20 := hk _ _ n20 rfl
      replace n21 := hk _ _ n21 rfl
      replace n22 := hk _ _ n22 rfl
      replace n23 := hk _ _ n23 rfl
      replace n24 := hk _ _ n24 rfl
      replace n25 := hk _ _ n25 rfl
      replace n26 := hk _ _ n26 rfl
      replace n27 := hk _ _ n27 rfl
      have n28 := n28'
      replace hI := hI'
      clear hk hI' n28'
      obtain ⟨act9, rfl⟩ : ∃ x, x = a' := ⟨_, rfl⟩
      refine rest_take (k := 25) (d := 3) (v := .bool true) hI rfl rfl (by kernel_rfl) (Nat.lt_of_le_of_lt (by decide) hsz) (by kernel_rfl) hpan (by kernel_rfl) hS (wanted_free rfl) (fun z hz => by have e28 := n28; have f28 := n28.eval; unfold At at e28; simp [go_sem, e28]) (fun a' hI' n3' hk => ?_)
      replace n6 := hk _ _ n6 rfl
      replace n7 := hk _ _ n7 rfl
      replace n8 := hk _ _ n8 rfl
      replace n9 := hk _ _ n9 rfl
      replace n10 := hk _ _ n10 rfl
      replace n11 := hk _ _ n11 rfl
      replace n12 := hk _ _ n12 rfl
      replace n13 := hk _ _ n13 rfl
      replace n14 := hk _ _ n14 rfl
      replace n15 := hk _ _ n15 rfl
      replace n16 := hk _ _ n16 rfl
      replace n17 := hk _ _ n17 rfl
      replace n18 := hk _ _ n18 rfl
      replace n19 := hk _ _ n19 rfl
      replace n20 := hk _ _ n20 rfl
      replace n21 := hk _ _ n21 rfl
      replace n22 := hk _ _ n22 rfl
      replace n23 := hk _ _ n23 rfl
      replace n24 := hk _ _ n24 rfl
      replace n25 := hk _ _ n25 rfl
      replace n26 := hk _ _ n26 rfl
      replace n27 := hk _ _ n27 rfl
      replace n28 := hk _ _ n28 rfl
      have n3 := n3'
      replace hI := hI'
      clear hk hI' n3'
      obtain ⟨act9, rfl⟩ : ∃ x, x = a' := ⟨_, rfl⟩
      refine rest_done (by kernel_rfl) ?_
      exact hfin _ _ hI n3 hq
  case rest =>
    obtain ⟨u, rfl⟩ : ∃ x, x = wc := ⟨_, rfl⟩
    obtain ⟨rfl, hb⟩ := hcut
    have HB2 := Lib.hid (below_thn HB.out hb)
    clear hb
    go_wp2_with fail
    go_ret
    exact ⟨rfl, HB2.out⟩
set_option maxHeartbeats 2000000 in
theorem poundBad_any (c u p : Int) (w : World) :
    Calls Try.prog 35 #[stampV c u p] w fun x w' => x = .returned (.bool (Pure.poundBad p)) ∧ Below w.heap.size w w' := by
  unfold Pure.poundBad
  obtain ⟨r1, hr1⟩ : ∃ r, decide (1 ≤ p ∧ p ≤ 500) = r := ⟨_, rfl⟩
  rw [hr1]
  have HR1 := Lib.hid hr1
  clear hr1
  go_enter Try.func35, Try.ntmps35
  go_wp2_with fail
  refine (within1 1 500 p _ _ _ (first_cell _ _ _ (by simp)) r1 HR1.out).mono ?_
  rintro x w' ⟨rfl, rfl⟩
  cases r1
  all_goals
    go_wp2_with fail
    go_ret
    exact ⟨rfl, by repeat (first | exact Below.refl _ _ | refine Below.alloc ?_ (by simp; try omega) _)⟩
set_option maxHeartbeats 1000000 in
theorem camsFit_any (m : Int) (a : Option Addr) (n c : Nat) (F : Nat → Int) (hm : 1 ≤ m ∧ m ≤ 12) (hn : n ≤ 40) (w : World) (hF : NumsAt w a (n * 3) F) : Calls Try.prog 31 #[shaftV m a n c] w fun e w' => e = .returned (.bool (Pure.camsB m n F)) ∧ Below w.heap.size w w' := by
  obtain ⟨W, hW⟩ : ∃ W, w.alloc (shaftB m a n c) = W := ⟨_, rfl⟩
  have HB : Hid (Below w.heap.size w W) := Lib.hid (by rw [← hW]; exact below_new _ _)
  have HX : Hid (W.heap[w.heap.size]? = some (shaftB m a n c)) := Lib.hid (by rw [← hW]; exact heap_top _ _ rfl)
  have HN := Lib.hid (hF.below HB.out)
  have HM := Lib.hid hm
  clear hF hm
  have x1 := heap_cell HX.out (j := 1) rfl
  go_enter Try.func31, Try.ntmps31
  go_upto_region 1 with fail
  try rw [hW]
  clear hW
  go_wp2_with fail
  refine (containsCams_any w.heap.size a n c F (fun j => Pure.camBad m (F (j * 3)) (F (j * 3 + 1))) hn _ HN.out (fun u j hj hb => camBad_any w.heap.size m a n c _ _ _ HM.out u (heap_lft HX.out hb))).mono ?_
  rintro e w2 ⟨rfl, hb⟩
  have HB2 := Lib.hid (below_thn HB.out hb)
  clear hb
  go_wp2_with fail
  go_ret
  exact ⟨ret_bool (by simp [Pure.camsB]), HB2.out⟩
set_option maxHeartbeats 1000000 in
theorem poundsFit_any (m : Int) (a : Option Addr) (n c : Nat) (F : Nat → Int) (hn : n ≤ 40) (w : World) (hF : NumsAt w a (n * 3) F) : Calls Try.prog 32 #[shaftV m a n c] w fun e w' => e = .returned (.bool (Pure.poundsB n F)) ∧ Below w.heap.size w w' := by
  have HN := Lib.hid hF
  clear hF
  go_enter Try.func32, Try.ntmps32
  go_wp2_with fail
  refine (containsPounds_any a n c F (fun j => Pure.poundBad (F (j * 3 + 2))) hn _ (HN.out.below (below_new _ _)) (fun u j hj hb => poundBad_any _ _ _ u)).mono ?_
  rintro e w2 ⟨rfl, hb⟩
  have HB := Lib.hid (below_thn (below_new _ _) hb)
  clear hb
  go_wp2_with fail
  go_ret
  exact ⟨ret_bool (by simp [Pure.poundsB]), HB.out⟩

abbrev questionsV : Value := .agg #[.func (.func 30) #[] #[], .func (.func 31) #[] #[], .func (.func 32) #[] #[]]
theorem qIdx0 (w : World) : (Instr.index 67 questionsV (.int .i64 0)).run Try.prog w = .ok (.agg #[.func (.func 30) #[] #[]]) w := by kernel_rfl
theorem qIdx1 (w : World) : (Instr.index 67 questionsV (.int .i64 1)).run Try.prog w = .ok (.agg #[.func (.func 31) #[] #[]]) w := by kernel_rfl
theorem qIdx2 (w : World) : (Instr.index 67 questionsV (.int .i64 2)).run Try.prog w = .ok (.agg #[.func (.func 32) #[] #[]]) w := by kernel_rfl
theorem questions_any (w : World) : Calls Try.prog 28 #[] w fun e w' => e = .returned questionsV ∧ Below w.heap.size w w' := by
  go_enter Try.func28, Try.ntmps28
  go_wp2_with fail
  refine bodyPost_ret (v := questionsV) (by simp [results, Try.results28, go_sem]) rfl ⟨rfl, ?_⟩
  repeat (first | exact Below.refl _ _ | refine Below.setCell ?_ (by simp) _ | refine Below.alloc ?_ (by simp; try omega) _)

set_option maxHeartbeats 4000000 in
set_option maxRecDepth 100000 in
/-- **Sound**. -/
theorem sound_any (m : Int) (a : Option Addr) (n c : Nat) (F : Nat → Int) (hn : n ≤ 40) (w : World) (hF : NumsAt w a (n * 3) F) :
    Calls Try.prog 19 #[shaftV m a n c] w fun e w' => e = .returned (.int .i64 (Pure.err (Pure.shaft m n F) 102)) ∧ Below w.heap.size w w' := by
  have HP := Lib.hid hF
  clear hF
  go_enter Try.func19, Try.ntmps19
  go_wp2_with fail
  refine (questions_any _).mono ?_
  rintro e W ⟨rfl, hb⟩
  have HB := Lib.hid ((below_new w (shaftB m a n c)).trans (hb.mono (by simp)))
  have HX := Lib.hid (heap_lft (heap_top w (shaftB m a n c) rfl) hb)
  clear hb
  go_wp2_with fail
  go_loopw [4, 6] (fun _ i wr => ∃ k : Nat, k ≤ 3 ∧ i = .int .i64 k ∧ (1 ≤ k → Pure.marksB m n = true) ∧ (2 ≤ k → Pure.camsB m n F = true) ∧ (3 ≤ k → Pure.poundsB n F = true) ∧ Below W.heap.size W wr) (fun _ i _ => 3 - (intOf i).toNat)
  case atStart => exact ⟨0, by omega, rfl, by omega, by omega, by omega, Below.refl _ _⟩
  case round =>
    obtain ⟨k, hk, rfl, q1, q2, q3, hb⟩ := hrel
    have HQ := Lib.hid (And.intro q1 (And.intro q2 q3))
    have HX2 := Lib.hid (heap_lft HX.out hb)
    have HBk := Lib.hid hb
    have hbl : ∀ W', Below W.heap.size W W' → Below w.heap.size w W' := fun W' g => below_thn HB.out g
    have HBL := Lib.hid hbl
    clear q1 q2 q3 hb hbl
    have hs1 : w.heap.size < wr.heap.size := (Array.getElem?_eq_some_iff.1 HX2.out).1
    have hk5 : k = 0 ∨ k = 1 ∨ k = 2 ∨ k = 3 := by omega
    rcases hk5 with rfl | rfl | rfl | rfl
    · obtain ⟨r, hr⟩ : ∃ r, Pure.marksB m n = r := ⟨_, rfl⟩
      have HR := Lib.hid hr
      clear hr
      obtain ⟨U, hU⟩ : ∃ U, wr.alloc (.cells #[.func (.func 30) #[] #[]] 66) = U := ⟨_, rfl⟩
      have HBU0 : Hid (Below W.heap.size W U) := Lib.hid (by rw [← hU]; exact below_thn HBk.out (below_new _ _))
      have HXU : Hid (U.heap[w.heap.size]? = some (shaftB m a n c)) := Lib.hid (by rw [← hU]; exact heap_up HX2.out _)
      have HF : Hid (U.heap[wr.heap.size]? = some (.cells #[.func (.func 30) #[] #[]] 66)) := Lib.hid (by rw [← hU]; exact heap_top _ _ rfl)
      have HBU := Lib.hid (HBL.out _ HBU0.out)
      have k0 := heap_cell HXU.out (j := 0) rfl
      have k1 := heap_cell HXU.out (j := 1) rfl
      have kf := heap_cell HF.out (j := 0) rfl
      have hidx := qIdx0 wr
      go_upto_region 4 with fail
      try rw [hU]
      clear hU
      go_wp2_with fail
      refine (marksFit_any m a n c _).mono ?_
      rintro e u ⟨rfl, hb⟩
      rw [HR.out]
      have HB9 := Lib.hid (below_thn HBU0.out hb)
      clear hb kf k0 k1
      cases r
      · go_wp2_with fail
        go_ret
        exact ⟨ret_int (by simp [Pure.err, Pure.shaft, HR.out]), HBL.out _ HB9.out⟩
      · go_wp2_with fail
        go_roundw
        case rel => exact ⟨1, by omega, rfl, fun _ => HR.out, fun g => absurd g (by omega), fun g => absurd g (by omega), HB9.out⟩
        case measure => simp [intOf]
    · obtain ⟨r, hr⟩ : ∃ r, Pure.camsB m n F = r := ⟨_, rfl⟩
      have HR := Lib.hid hr
      clear hr
      obtain ⟨U, hU⟩ : ∃ U, wr.alloc (.cells #[.func (.func 31) #[] #[]] 66) = U := ⟨_, rfl⟩
      have HBU0 : Hid (Below W.heap.size W U) := Lib.hid (by rw [← hU]; exact below_thn HBk.out (below_new _ _))
      have HXU : Hid (U.heap[w.heap.size]? = some (shaftB m a n c)) := Lib.hid (by rw [← hU]; exact heap_up HX2.out _)
      have HF : Hid (U.heap[wr.heap.size]? = some (.cells #[.func (.func 31) #[] #[]] 66)) := Lib.hid (by rw [← hU]; exact heap_top _ _ rfl)
      have HBU := Lib.hid (HBL.out _ HBU0.out)
      have k0 := heap_cell HXU.out (j := 0) rfl
      have k1 := heap_cell HXU.out (j := 1) rfl
      have kf := heap_cell HF.out (j := 0) rfl
      have hidx := qIdx1 wr
      go_upto_region 4 with fail
      try rw [hU]
      clear hU
      go_wp2_with fail
      refine (camsFit_any m a n c F (by have h := HQ.out.1 (by omega); simp only [Pure.marksB, Bool.and_eq_true, decide_eq_true_eq] at h; exact h.1) hn _ (HP.out.below HBU.out)).mono ?_
      rintro e u ⟨rfl, hb⟩
      rw [HR.out]
      have HB9 := Lib.hid (below_thn HBU0.out hb)
      clear hb kf k0 k1
      cases r
      · go_wp2_with fail
        go_ret
        exact ⟨ret_int (by simp [Pure.err, Pure.shaft, HR.out]), HBL.out _ HB9.out⟩
      · go_wp2_with fail
        go_roundw
        case rel => exact ⟨2, by omega, rfl, fun _ => HQ.out.1 (by omega), fun _ => HR.out, fun g => absurd g (by omega), HB9.out⟩
        case measure => simp [intOf]
    · obtain ⟨r, hr⟩ : ∃ r, Pure.poundsB n F = r := ⟨_, rfl⟩
      have HR := Lib.hid hr
      clear hr
      obtain ⟨U, hU⟩ : ∃ U, wr.alloc (.cells #[.func (.func 32) #[] #[]] 66) = U := ⟨_, rfl⟩
      have HBU0 : Hid (Below W.heap.size W U) := Lib.hid (by rw [← hU]; exact below_thn HBk.out (below_new _ _))
      have HXU : Hid (U.heap[w.heap.size]? = some (shaftB m a n c)) := Lib.hid (by rw [← hU]; exact heap_up HX2.out _)
      have HF : Hid (U.heap[wr.heap.size]? = some (.cells #[.func (.func 32) #[] #[]] 66)) := Lib.hid (by rw [← hU]; exact heap_top _ _ rfl)
      have HBU := Lib.hid (HBL.out _ HBU0.out)
      have k0 := heap_cell HXU.out (j := 0) rfl
      have k1 := heap_cell HXU.out (j := 1) rfl
      have kf := heap_cell HF.out (j := 0) rfl
      have hidx := qIdx2 wr
      go_upto_region 4 with fail
      try rw [hU]
      clear hU
      go_wp2_with fail
      refine (poundsFit_any m a n c F hn _ (HP.out.below HBU.out)).mono ?_
      rintro e u ⟨rfl, hb⟩
      rw [HR.out]
      have HB9 := Lib.hid (below_thn HBU0.out hb)
      clear hb kf k0 k1
      cases r
      · go_wp2_with fail
        go_ret
        exact ⟨ret_int (by simp [Pure.err, Pure.shaft, HR.out]), HBL.out _ HB9.out⟩
      · go_wp2_with fail
        go_roundw
        case rel => exact ⟨3, by omega, rfl, fun _ => HQ.out.1 (by omega), fun _ => HQ.out.2.1 (by omega), fun _ => HR.out, HB9.out⟩
        case measure => simp [intOf]
    · go_wp2_with fail
      go_ret
      exact ⟨ret_int (by simp [Pure.err, Pure.shaft, HQ.out.1 (by omega), HQ.out.2.1 (by omega), HQ.out.2.2 (by omega)]), HBL.out _ HBk.out⟩

end Go.Proofs.Ytijfdfplebbaaab
