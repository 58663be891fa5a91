/-
  The contracts of ids, checkKind, index, and of what a press is asked of its pressings.
-/
import Derived.Test.YtijfdfplebbaaaaGreatQOrd
import Derived.Test.YtijfdfplebbaaaaGreatRest
namespace Go.Proofs.YtijfdfplebbaaaaGreat
open Go.RowKit

namespace Pure
/-- Which pressing has an Id. -/
def index (n : Nat) (F : Nat → Int) (id : Int) : Int := firstAt (fun j => F (j * 4) == id) n
def wrongP (i d p : Int) : Bool := !decide (1 ≤ i ∧ i ≤ 9999) || (!decide (0 ≤ d ∧ d ≤ 3652) || !decide (1 ≤ p ∧ p ≤ 6))
def fewP (n m : Nat) : Bool := decide ((n : Int) ≤ 10) && decide ((m : Int) ≤ 30)
def fitP (n : Nat) (F : Nat → Int) : Bool := !(List.range n).any (fun j => wrongP (F (j * 4)) (F (j * 4 + 1)) (F (j * 4 + 2)))
def ordP (n : Nat) (F : Nat → Int) : Bool := inOrder (fun j => decide (F (j * 4) < F ((j + 1) * 4)) && decide (F (j * 4 + 1) ≤ F ((j + 1) * 4 + 1))) n
def leadP (n : Nat) (F : Nat → Int) : Bool := decide (∀ j, j < n → F (j * 4 + 3) = 0 ∨ (j : Int) < index n F (F (j * 4 + 3)))
end Pure

theorem ids_any (w : World) : Calls Tryz.prog 96 #[] w fun e w' => e = .returned (spanV 1 9999) ∧ Below w.heap.size w w' := by
  go_enter Tryz.func96, Tryz.ntmps96
  go_wp2_with fail
  refine bodyPost_ret (v := spanV 1 9999) (by simp [results, Tryz.results96, go_sem]) rfl ⟨rfl, ?_⟩
  repeat (first | exact Below.refl _ _ | refine Below.setCell ?_ (by simp) _ | refine Below.alloc ?_ (by simp; try omega) _)
theorem checkKind_any (k : Int) (w : World) : Calls Tryz.prog 99 #[.int .i64 k] w fun e w' => e = .returned (.int .i64 (Pure.err (decide (1 ≤ k ∧ k ≤ 6)) 2)) ∧ Below w.heap.size w w' := by
  go_enter Tryz.func99, Tryz.ntmps99
  go_wp2_with fail
  refine (within1 1 6 k _ _ _ (first_cell _ _ _ (by simp)) _ rfl).mono ?_
  rintro e w' ⟨rfl, rfl⟩
  obtain ⟨r, hr⟩ : ∃ r, decide (1 ≤ k ∧ k ≤ 6) = r := ⟨_, rfl⟩
  have HR := Lib.hid hr
  rw [hr]
  clear hr
  go_wp2_with fail
  refine (unless_any r 2 _).mono ?_
  rintro e w' ⟨rfl, rfl⟩
  go_wp2_with fail
  go_ret
  exact ⟨ret_int (by rw [HR.out]), by repeat (first | exact Below.refl _ _ | refine Below.alloc ?_ (by simp; try omega) _)⟩
theorem byId_any (B : Nat) (id i d p t : Int) (ty : TypeId) (w : World) (hB : w.heap[B]? = some (.cells #[.int .i64 id] ty)) :
    Calls Tryz.prog 105 #[ringV i d p t, .pointer (some ⟨B, 0, none⟩)] w fun e w' => e = .returned (.bool (i == id)) ∧ Below w.heap.size w w' := by
  have k0 := heap_cell (heap_up hB (ringB i d p t)) (j := 0) rfl
  go_enter Tryz.func105, Tryz.ntmps105
  go_wp2_with fail
  go_ret
  exact ⟨rfl, below_new _ _⟩
set_option maxHeartbeats 1000000 in
theorem index_any (a : Option Addr) (n c : Nat) (b : Option Addr) (m d : Nat) (F : Nat → Int) (id : Int) (hn : n ≤ 60) (w : World) (hF : NumsAt w a (n * 4) F) :
    Calls Tryz.prog 97 #[pressV a n c b m d, .int .i64 id] w fun e w' => e = .returned (.int .i64 (Pure.index n F id)) ∧ Below w.heap.size w w' := by
  obtain ⟨W, hW⟩ : ∃ W, (w.alloc (pressB a n c b m d)).alloc (.cells #[.int .i64 id] 3) = W := ⟨_, rfl⟩
  have HB : Hid (Below w.heap.size w W) := Lib.hid (by rw [← hW]; exact (below_new _ _).alloc (by simp) _)
  have HX : Hid (W.heap[w.heap.size]? = some (pressB a n c b m d)) := Lib.hid (by rw [← hW]; exact heap_up (heap_top _ _ rfl) _)
  have HI : Hid (W.heap[w.heap.size + 1]? = some (.cells #[.int .i64 id] 3)) := Lib.hid (by rw [← hW]; exact heap_top _ _ (by simp))
  have HP := Lib.hid (hF.below HB.out)
  clear hF
  have x0 := heap_cell HX.out (j := 0) rfl
  go_enter Tryz.func97, Tryz.ntmps97
  go_upto_region 1 with fail
  try rw [hW]
  clear hW
  go_wp2_with fail
  refine (indexId_any (w.heap.size + 1) a n c F (fun j => F (j * 4) == id) hn _ HP.out (fun u j hj hb => byId_any (w.heap.size + 1) id _ _ _ _ _ u (heap_lft HI.out hb))).mono ?_
  rintro e u ⟨rfl, hb⟩
  have HB2 := Lib.hid (below_thn HB.out hb)
  clear hb x0
  go_wp2_with fail
  go_ret
  exact ⟨rfl, HB2.out⟩
set_option maxHeartbeats 2000000 in
set_option maxRecDepth 100000 in
theorem wrongP_any (i d p t : Int) (w : World) :
    Calls Tryz.prog 68 #[ringV i d p t] w fun x w' => x = .returned (.bool (Pure.wrongP i d p)) ∧ Below w.heap.size w w' := by
  unfold Pure.wrongP
  obtain ⟨r1, hr1⟩ : ∃ r, decide (1 ≤ i ∧ i ≤ 9999) = r := ⟨_, rfl⟩
  obtain ⟨r2, hr2⟩ : ∃ r, decide (0 ≤ d ∧ d ≤ 3652) = r := ⟨_, rfl⟩
  obtain ⟨r3, hr3⟩ : ∃ r, decide (1 ≤ p ∧ p ≤ 6) = r := ⟨_, rfl⟩
  rw [hr1, hr2, hr3]
  have HR1 := Lib.hid hr1
  have HR2 := Lib.hid hr2
  have HR3 := Lib.hid hr3
  clear hr1 hr2 hr3
  obtain ⟨W, hW⟩ : ∃ W, w.alloc (ringB i d p t) = W := ⟨_, rfl⟩
  have HB : Hid (Below w.heap.size w W) := Lib.hid (by rw [← hW]; exact below_new _ _)
  have HX : Hid (W.heap[w.heap.size]? = some (ringB i d p t)) := Lib.hid (by rw [← hW]; exact heap_top _ _ rfl)
  go_enter Tryz.func68, Tryz.ntmps68
  go_upto_region 1 with fail
  try rw [hW]
  clear hW
  go_cut [2] from 3 to 24 (fun s wx => s = .bool (!r1 || (!r2 || !r3)) ∧ Below W.heap.size W wx)
  case first =>
    rename_i J K' hJ hK'
    generalize hA : (Act.mk _ _ : Act) = a0
    have m1 : At a0 1 (.pointer (some ⟨w.heap.size, 0, none⟩)) := by rw [← hA]; rfl
    have hsz : 24 < a0.tmps.size := by rw [← hA]; exact of_decide_eq_true (by kernel_rfl)
    have hfin : ∀ a' w', Kept (2 :: List.range' 3 22) a0 a' → At a' 2 (.bool (!r1 || (!r2 || !r3))) → (Below W.heap.size W w') → K' a' w' := by
      intro a' w' hI hv2 hL
      refine hK' _ _ (Met.intro (hJ _ _ ⟨a'.tmps.getD 2 undef, a'.tmps.getD 3 undef, a'.tmps.getD 4 undef, a'.tmps.getD 5 undef, a'.tmps.getD 6 undef, a'.tmps.getD 7 undef, a'.tmps.getD 8 undef, a'.tmps.getD 9 undef, a'.tmps.getD 10 undef, a'.tmps.getD 11 undef, a'.tmps.getD 12 undef, a'.tmps.getD 13 undef, a'.tmps.getD 14 undef, a'.tmps.getD 15 undef, a'.tmps.getD 16 undef, a'.tmps.getD 17 undef, a'.tmps.getD 18 undef, a'.tmps.getD 19 undef, a'.tmps.getD 20 undef, a'.tmps.getD 21 undef, a'.tmps.getD 22 undef, a'.tmps.getD 23 undef, a'.tmps.getD 24 undef, ⟨by have g := hv2; unfold At at g; rw [Array.getD_eq_getD_getElem?, g]; rfl, hL⟩, hI.eq.trans ?_⟩))
      rw [← hA]
      kernel_rfl
    have hI : Kept (2 :: List.range' 3 22) a0 a0 := Kept.refl _ _
    clear hA hJ hK' J
    refine with_pan (fun d _ _ _ _ h => by cases d <;> exact h) ?_
    intro hpan
    refine wp_region_rest (fun z => z.heap[w.heap.size]? = some (ringB i d p t)) (by kernel_rfl) ?_
    obtain ⟨wz, hwz⟩ : ∃ x, W.drew = x := ⟨_, rfl⟩
    change Rest _ _ _ _ _ _ _ (W.drew)
    rw [hwz]
    have hq : Below W.heap.size W wz := by rw [← hwz]; exact (Below.refl _ _).drew
    clear hwz
    have hS := heap_lft HX.out hq
    refine rest_take (k := 1) (d := 4) (v := .pointer (some ⟨w.heap.size, 0, none⟩)) hI rfl rfl (by kernel_rfl) (Nat.lt_of_le_of_lt (by decide) hsz) (by kernel_rfl) hpan (by kernel_rfl) hS (wanted_free rfl) (fun z hz => by have n1 := hI.at m1 (by kernel_rfl); have e1 := n1; have f1 := n1.eval; unfold At at e1; simp [go_sem, e1]) (fun a' hI' n4' hk => ?_)
    have n4 := n4'
    replace hI := hI'
    clear hk hI' n4'
    obtain ⟨act9, rfl⟩ : ∃ x, x = a' := ⟨_, rfl⟩
    refine rest_take (k := 2) (d := 5) (v := .int .i64 i) hI rfl rfl (by kernel_rfl) (Nat.lt_of_le_of_lt (by decide) hsz) (by kernel_rfl) hpan (by kernel_rfl) hS (wanted_free rfl) (fun z hz => by have e4 := n4; have f4 := n4.eval; unfold At at e4; have k0 := heap_cell hz (j := 0) rfl; simp [go_sem, e4, k0]) (fun a' hI' n5' hk => ?_)
    replace n4 := hk _ _ n4 rfl
    have n5 := n5'
    replace hI := hI'
    clear hk hI' n5'
    obtain ⟨act9, rfl⟩ : ∃ x, x = a' := ⟨_, rfl⟩
    clear n4
    refine rest_name (fun R hR => ?_)
    have tl : ∀ ac wo B, Kept (2 :: List.range' 3 22) a0 ac → At ac 3 (spanV 1 9999) → At ac 6 (.slice (some ⟨B, 0, none⟩) 1 1) → Below W.heap.size W wo → wo.cell? ⟨B, 0, none⟩ = some (.int .i64 i) → R 19 [3, 0, 2, 1] ac wo := by
      intro ac wo B hI n3 n6 hq hcb
      have hS := heap_lft HX.out hq
      rw [hR]
      refine rest_only (k := 4) (by kernel_rfl) (op_call (k := 4) (d := 7) (R := fun v w' => v = .bool r1 ∧ w' = wo.alloc (spanB 1 9999)) hI rfl rfl (by kernel_rfl) (Nat.lt_of_le_of_lt (by decide) hsz) (wanted_free rfl) ((within1 1 9999 i B 1 _ hcb r1 HR1.out).mono fun e w' g => ⟨_, g.1, rfl, g.2⟩) (by have e3 := n3; have f3 := n3.eval; unfold At at e3; have e6 := n6; have f6 := n6.eval; unfold At at e6; simp [go_sem, e3, e6]) ?_)
      intro v w' a' hR hI' n7' hk
      obtain ⟨rfl, rfl⟩ := hR
      refine ⟨heap_lft hS (below_new _ _), ?_⟩
      replace n3 := hk _ _ n3 rfl
      replace n6 := hk _ _ n6 rfl
      have n7 := n7'
      replace hI := hI'
      clear hk hI' n7'
      obtain ⟨act9, rfl⟩ : ∃ x, x = a' := ⟨_, rfl⟩
      replace hS := heap_lft hS (below_new _ (spanB 1 9999))
      replace hq := below_thn hq (below_new _ (spanB 1 9999))
      clear hcb
      obtain ⟨v1, hwe⟩ : ∃ x, wo.alloc (spanB 1 9999) = x := ⟨_, rfl⟩
      rw [hwe] at hS hq ⊢
      clear hwe
      clear n3
      clear n6
      cases r1
      · refine rest_take (k := 5) (d := 8) (v := .bool true) hI rfl rfl (by kernel_rfl) (Nat.lt_of_le_of_lt (by decide) hsz) (by kernel_rfl) hpan (by kernel_rfl) hS (wanted_free rfl) (fun z hz => by have e7 := n7; have f7 := n7.eval; unfold At at e7; simp [go_sem, e7]) (fun a' hI' n8' hk => ?_)
        replace n7 := hk _ _ n7 rfl
        have n8 := n8'
        replace hI := hI'
        clear hk hI' n8'
        obtain ⟨act9, rfl⟩ : ∃ x, x = a' := ⟨_, rfl⟩
        refine rest_take (k := 6) (d := 9) (v := .bool true) hI rfl rfl (by kernel_rfl) (Nat.lt_of_le_of_lt (by decide) hsz) (by kernel_rfl) hpan (by kernel_rfl) hS (wanted_free rfl) (fun z hz => by have e8 := n8; have f8 := n8.eval; unfold At at e8; simp [go_sem, e8]) (fun a' hI' n9' hk => ?_)
        replace n7 := hk _ _ n7 rfl
        replace n8 := hk _ _ n8 rfl
        have n9 := n9'
        replace hI := hI'
        clear hk hI' n9'
        obtain ⟨act9, rfl⟩ : ∃ x, x = a' := ⟨_, rfl⟩
        clear n7
        clear n8
        refine rest_skip (k := 7) (d := 10) hI rfl rfl (by kernel_rfl) (Nat.lt_of_le_of_lt (by decide) hsz) (by kernel_rfl) hpan (by kernel_rfl) hS (unwanted_at rfl rfl n9 rfl) (fun a' hI' n10' hk => ?_)
        replace n9 := hk _ _ n9 rfl
        have n10 := n10'
        replace hI := hI'
        clear hk hI' n10'
        obtain ⟨act9, rfl⟩ : ∃ x, x = a' := ⟨_, rfl⟩
        refine rest_skip (k := 8) (d := 11) hI rfl rfl (by kernel_rfl) (Nat.lt_of_le_of_lt (by decide) hsz) (by kernel_rfl) hpan (by kernel_rfl) hS (unwanted_at rfl rfl n9 rfl) (fun a' hI' n11' hk => ?_)
        replace n9 := hk _ _ n9 rfl
        replace n10 := hk _ _ n10 rfl
        have n11 := n11'
        replace hI := hI'
        clear hk hI' n11'
        obtain ⟨act9, rfl⟩ : ∃ x, x = a' := ⟨_, rfl⟩
        refine rest_skip (k := 9) (d := 12) hI rfl rfl (by kernel_rfl) (Nat.lt_of_le_of_lt (by decide) hsz) (by kernel_rfl) hpan (by kernel_rfl) hS (unwanted_at rfl rfl n9 rfl) (fun a' hI' n12' hk => ?_)
        replace n9 := hk _ _ n9 rfl
        replace n10 := hk _ _ n10 rfl
        replace n11 := hk _ _ n11 rfl
        have n12 := n12'
        replace hI := hI'
        clear hk hI' n12'
        obtain ⟨act9, rfl⟩ : ∃ x, x = a' := ⟨_, rfl⟩
        refine rest_skip (k := 10) (d := 13) hI rfl rfl (by kernel_rfl) (Nat.lt_of_le_of_lt (by decide) hsz) (by kernel_rfl) hpan (by kernel_rfl) hS (unwanted_at rfl rfl n9 rfl) (fun a' hI' n13' hk => ?_)
        replace n9 := hk _ _ n9 rfl
        replace n10 := hk _ _ n10 rfl
        replace n11 := hk _ _ n11 rfl
        replace n12 := hk _ _ n12 rfl
        have n13 := n13'
        replace hI := hI'
        clear hk hI' n13'
        obtain ⟨act9, rfl⟩ : ∃ x, x = a' := ⟨_, rfl⟩
        refine rest_skip (k := 11) (d := 14) hI rfl rfl (by kernel_rfl) (Nat.lt_of_le_of_lt (by decide) hsz) (by kernel_rfl) hpan (by kernel_rfl) hS (unwanted_at rfl rfl n9 rfl) (fun a' hI' n14' hk => ?_)
        replace n9 := hk _ _ n9 rfl
        replace n10 := hk _ _ n10 rfl
        replace n11 := hk _ _ n11 rfl
        replace n12 := hk _ _ n12 rfl
        replace n13 := hk _ _ n13 rfl
        have n14 := n14'
        replace hI := hI'
        clear hk hI' n14'
        obtain ⟨act9, rfl⟩ : ∃ x, x = a' := ⟨_, rfl⟩
        refine rest_skip (k := 12) (d := 15) hI rfl rfl (by kernel_rfl) (Nat.lt_of_le_of_lt (by decide) hsz) (by kernel_rfl) hpan (by kernel_rfl) hS (unwanted_at rfl rfl n9 rfl) (fun a' hI' n15' hk => ?_)
        replace n9 := hk _ _ n9 rfl
        replace n10 := hk _ _ n10 rfl
        replace n11 := hk _ _ n11 rfl
        replace n12 := hk _ _ n12 rfl
        replace n13 := hk _ _ n13 rfl
        replace n14 := hk _ _ n14 rfl
        have n15 := n15'
        replace hI := hI'
        clear hk hI' n15'
        obtain ⟨act9, rfl⟩ : ∃ x, x = a' := ⟨_, rfl⟩
        refine rest_take (k := 13) (d := 16) (v := .bool true) hI rfl rfl (by kernel_rfl) (Nat.lt_of_le_of_lt (by decide) hsz) (by kernel_rfl) hpan (by kernel_rfl) hS (wanted_free rfl) (fun z hz => by have e9 := n9; have f9 := n9.eval; unfold At at e9; simp [go_sem, e9]) (fun a' hI' n16' hk => ?_)
        replace n9 := hk _ _ n9 rfl
        replace n10 := hk _ _ n10 rfl
        replace n11 := hk _ _ n11 rfl
        replace n12 := hk _ _ n12 rfl
        replace n13 := hk _ _ n13 rfl
        replace n14 := hk _ _ n14 rfl
        replace n15 := hk _ _ n15 rfl
        have n16 := n16'
        replace hI := hI'
        clear hk hI' n16'
        obtain ⟨act9, rfl⟩ : ∃ x, x = a' := ⟨_, rfl⟩
        refine rest_take (k := 14) (d := 17) (v := .bool true) hI rfl rfl (by kernel_rfl) (Nat.lt_of_le_of_lt (by decide) hsz) (by kernel_rfl) hpan (by kernel_rfl) hS (wanted_free rfl) (fun z hz => by have e16 := n16; have f16 := n16.eval; unfold At at e16; simp [go_sem, e16]) (fun a' hI' n17' hk => ?_)
        replace n9 := hk _ _ n9 rfl
        replace n10 := hk _ _ n10 rfl
        replace n11 := hk _ _ n11 rfl
        replace n12 := hk _ _ n12 rfl
        replace n13 := hk _ _ n13 rfl
        replace n14 := hk _ _ n14 rfl
        replace n15 := hk _ _ n15 rfl
        replace n16 := hk _ _ n16 rfl
        have n17 := n17'
        replace hI := hI'
        clear hk hI' n17'
        obtain ⟨act9, rfl⟩ : ∃ x, x = a' := ⟨_, rfl⟩
        refine rest_skip (k := 15) (d := 18) hI rfl rfl (by kernel_rfl) (Nat.lt_of_le_of_lt (by decide) hsz) (by kernel_rfl) hpan (by kernel_rfl) hS (unwanted_at rfl rfl n17 rfl) (fun a' hI' n18' hk => ?_)
        replace n9 := hk _ _ n9 rfl
        replace n10 := hk _ _ n10 rfl
        replace n11 := hk _ _ n11 rfl
        replace n12 := hk _ _ n12 rfl
        replace n13 := hk _ _ n13 rfl
        replace n14 := hk _ _ n14 rfl
        replace n15 := hk _ _ n15 rfl
        replace n16 := hk _ _ n16 rfl
        replace n17 := hk _ _ n17 rfl
        have n18 := n18'
        replace hI := hI'
        clear hk hI' n18'
        obtain ⟨act9, rfl⟩ : ∃ x, x = a' := ⟨_, rfl⟩
        refine rest_skip (k := 16) (d := 19) hI rfl rfl (by kernel_rfl) (Nat.lt_of_le_of_lt (by decide) hsz) (by kernel_rfl) hpan (by kernel_rfl) hS (unwanted_at rfl rfl n17 rfl) (fun a' hI' n19' hk => ?_)
        replace n9 := hk _ _ n9 rfl
        replace n10 := hk _ _ n10 rfl
        replace n11 := hk _ _ n11 rfl
        replace n12 := hk _ _ n12 rfl
        replace n13 := hk _ _ n13 rfl
        replace n14 := hk _ _ n14 rfl
        replace n15 := hk _ _ n15 rfl
        replace n16 := hk _ _ n16 rfl
        replace n17 := hk _ _ n17 rfl
        replace n18 := hk _ _ n18 rfl
        have n19 := n19'
        replace hI := hI'
        clear hk hI' n19'
        obtain ⟨act9, rfl⟩ : ∃ x, x = a' := ⟨_, rfl⟩
        refine rest_skip (k := 17) (d := 20) hI rfl rfl (by kernel_rfl) (Nat.lt_of_le_of_lt (by decide) hsz) (by kernel_rfl) hpan (by kernel_rfl) hS (unwanted_at rfl rfl n17 rfl) (fun a' hI' n20' hk => ?_)
        replace n9 := hk _ _ n9 rfl
        replace n10 := hk _ _ n10 rfl
        replace n11 := hk _ _ n11 rfl
        replace n12 := hk _ _ n12 rfl
        replace n13 := hk _ _ n13 rfl
        replace n14 := hk _ _ n14 rfl
        replace n15 := hk _ _ n15 rfl
        replace n16 := hk _ _ n16 rfl
        replace n17 := hk _ _ n17 rfl
        replace n18 := hk _ _ n18 rfl
        replace n19 := hk _ _ n19 rfl
        have n20 := n20'
        replace hI := hI'
        clear hk hI' n20'
        obtain ⟨act9, rfl⟩ : ∃ x, x = a' := ⟨_, rfl⟩
        refine rest_skip (k := 18) (d := 21) hI rfl rfl (by kernel_rfl) (Nat.lt_of_le_of_lt (by decide) hsz) (by kernel_rfl) hpan (by kernel_rfl) hS (unwanted_at rfl rfl n17 rfl) (fun a' hI' n21' hk => ?_)
        replace n9 := hk _ _ n9 rfl
        replace n10 := hk _ _ n10 rfl
        replace n11 := hk _ _ n11 rfl
        replace n12 := hk _ _ n12 rfl
        replace n13 := hk _ _ n13 rfl
        replace n14 := hk _ _ n14 rfl
        replace n15 := hk _ _ n15 rfl
        replace n16 := hk _ _ n16 rfl
        replace n17 := hk _ _ n17 rfl
        replace n18 := hk _ _ n18 rfl
        replace n19 := hk _ _ n19 rfl
        replace n20 := hk _ _ n20 rfl
        have n21 := n21'
        replace hI := hI'
        clear hk hI' n21'
        obtain ⟨act9, rfl⟩ : ∃ x, x = a' := ⟨_, rfl⟩
        refine rest_skip (k := 19) (d := 22) hI rfl rfl (by kernel_rfl) (Nat.lt_of_le_of_lt (by decide) hsz) (by kernel_rfl) hpan (by kernel_rfl) hS (unwanted_at rfl rfl n17 rfl) (fun a' hI' n22' hk => ?_)
        replace n9 := hk _ _ n9 rfl
        replace n10 := hk _ _ n10 rfl
        replace n11 := hk _ _ n11 rfl
        replace n12 := hk _ _ n12 rfl
        replace n13 := hk _ _ n13 rfl
        replace n14 := hk _ _ n14 rfl
        replace n15 := hk _ _ n15 rfl
        replace n16 := hk _ _ n16 rfl
        replace n17 := hk _ _ n17 rfl
        replace n18 := hk _ _ n18 rfl
        replace n19 := hk _ _ n19 rfl
        replace n20 := hk _ _ n20 rfl
        replace n21 := hk _ _ n21 rfl
        have n22 := n22'
        replace hI := hI'
        clear hk hI' n22'
        obtain ⟨act9, rfl⟩ : ∃ x, x = a' := ⟨_, rfl⟩
        refine rest_skip (k := 20) (d := 23) hI rfl rfl (by kernel_rfl) (Nat.lt_of_le_of_lt (by decide) hsz) (by kernel_rfl) hpan (by kernel_rfl) hS (unwanted_at rfl rfl n17 rfl) (fun a' hI' n23' hk => ?_)
        replace n9 := hk _ _ n9 rfl
        replace n10 := hk _ _ n10 rfl
        replace n11 := hk _ _ n11 rfl
        replace n12 := hk _ _ n12 rfl
        replace n13 := hk _ _ n13 rfl
        replace n14 := hk _ _ n14 rfl
        replace n15 := hk _ _ n15 rfl
        replace n16 := hk _ _ n16 rfl
        replace n17 := hk _ _ n17 rfl
        replace n18 := hk _ _ n18 rfl
        replace n19 := hk _ _ n19 rfl
        replace n20 := hk _ _ n20 rfl
        replace n21 := hk _ _ n21 rfl
        replace n22 := hk _ _ n22 rfl
        have n23 := n23'
        replace hI := hI'
        clear hk hI' n23'
        obtain ⟨act9, rfl⟩ : ∃ x, x = a' := ⟨_, rfl⟩
        refine rest_take (k := 21) (d := 24) (v := .bool true) hI rfl rfl (by kernel_rfl) (Nat.lt_of_le_of_lt (by decide) hsz) (by kernel_rfl) hpan (by kernel_rfl) hS (wanted_free rfl) (fun z hz => by have e17 := n17; have f17 := n17.eval; unfold At at e17; simp [go_sem, e17]) (fun a' hI' n24' hk => ?_)
        replace n9 := hk _ _ n9 rfl
        replace n10 := hk _ _ n10 rfl
        replace n11 := hk _ _ n11 rfl
        replace n12 := hk _ _ n12 rfl
        replace n13 := hk _ _ n13 rfl
        replace n14 := hk _ _ n14 rfl
        replace n15 := hk _ _ n15 rfl
        replace n16 := hk _ _ n16 rfl
        replace n17 := hk _ _ n17 rfl
        replace n18 := hk _ _ n18 rfl
        replace n19 := hk _ _ n19 rfl
        replace n20 := hk _ _ n20 rfl
        replace n21 := hk _ _ n21 rfl
        replace n22 := hk _ _ n22 rfl
        replace n23 := hk _ _ n23 rfl
        have n24 := n24'
        replace hI := hI'
        clear hk hI' n24'
        obtain ⟨act9, rfl⟩ : ∃ x, x = a' := ⟨_, rfl⟩
        refine rest_take (k := 22) (d := 2) (v := .bool true) hI rfl rfl (by kernel_rfl) (Nat.lt_of_le_of_lt (by decide) hsz) (by kernel_rfl) hpan (by kernel_rfl) hS (wanted_free rfl) (fun z hz => by have e24 := n24; have f24 := n24.eval; unfold At at e24; simp [go_sem, e24]) (fun a' hI' n2' hk => ?_)
        replace n9 := hk _ _ n9 rfl
        replace n10 := hk _ _ n10 rfl
        replace n11 := hk _ _ n11 rfl
        replace n12 := hk _ _ n12 rfl
        replace n13 := hk _ _ n13 rfl
        replace n14 := hk _ _ n14 rfl
        replace n15 := hk _ _ n15 rfl
        replace n16 := hk _ _ n16 rfl
        replace n17 := hk _ _ n17 rfl
        replace n18 := hk _ _ n18 rfl
        replace n19 := hk _ _ n19 rfl
        replace n20 := hk _ _ n20 rfl
        replace n21 := hk _ _ n21 rfl
        replace n22 := hk _ _ n22 rfl
        replace n23 := hk _ _ n23 rfl
        replace n24 := hk _ _ n24 rfl
        have n2 := n2'
        replace hI := hI'
        clear hk hI' n2'
        obtain ⟨act9, rfl⟩ : ∃ x, x = a' := ⟨_, rfl⟩
        refine rest_done (by kernel_rfl) ?_
        exact hfin _ _ hI n2 hq
      · refine rest_take (k := 5) (d := 8) (v := .bool false) hI rfl rfl (by kernel_rfl) (Nat.lt_of_le_of_lt (by decide) hsz) (by kernel_rfl) hpan (by kernel_rfl) hS (wanted_free rfl) (fun z hz => by have e7 := n7; have f7 := n7.eval; unfold At at e7; simp [go_sem, e7]) (fun a' hI' n8' hk => ?_)
        replace n7 := hk _ _ n7 rfl
        have n8 := n8'
        replace hI := hI'
        clear hk hI' n8'
        obtain ⟨act9, rfl⟩ : ∃ x, x = a' := ⟨_, rfl⟩
        refine rest_take (k := 6) (d := 9) (v := .bool false) hI rfl rfl (by kernel_rfl) (Nat.lt_of_le_of_lt (by decide) hsz) (by kernel_rfl) hpan (by kernel_rfl) hS (wanted_free rfl) (fun z hz => by have e8 := n8; have f8 := n8.eval; unfold At at e8; simp [go_sem, e8]) (fun a' hI' n9' hk => ?_)
        replace n7 := hk _ _ n7 rfl
        replace n8 := hk _ _ n8 rfl
        have n9 := n9'
        replace hI := hI'
        clear hk hI' n9'
        obtain ⟨act9, rfl⟩ : ∃ x, x = a' := ⟨_, rfl⟩
        clear n7
        clear n8
        refine rest_take (k := 7) (d := 10) (v := spanV 0 3652) hI rfl rfl (by kernel_rfl) (Nat.lt_of_le_of_lt (by decide) hsz) (by kernel_rfl) hpan (by kernel_rfl) hS (wanted_at rfl rfl (n9)) (fun z hz => by simp [go_sem]) (fun a' hI' n10' hk => ?_)
        replace n9 := hk _ _ n9 rfl
        have n10 := n10'
        replace hI := hI'
        clear hk hI' n10'
        obtain ⟨act9, rfl⟩ : ∃ x, x = a' := ⟨_, rfl⟩
        refine rest_take (k := 8) (d := 11) (v := .pointer (some ⟨w.heap.size, 1, none⟩)) hI rfl rfl (by kernel_rfl) (Nat.lt_of_le_of_lt (by decide) hsz) (by kernel_rfl) hpan (by kernel_rfl) hS (wanted_at rfl rfl (n9)) (fun z hz => by have n1 := hI.at m1 (by kernel_rfl); have e1 := n1; have f1 := n1.eval; unfold At at e1; simp [go_sem, e1]) (fun a' hI' n11' hk => ?_)
        replace n9 := hk _ _ n9 rfl
        replace n10 := hk _ _ n10 rfl
        have n11 := n11'
        replace hI := hI'
        clear hk hI' n11'
        obtain ⟨act9, rfl⟩ : ∃ x, x = a' := ⟨_, rfl⟩
        refine rest_take (k := 9) (d := 12) (v := .int .i64 d) hI rfl rfl (by kernel_rfl) (Nat.lt_of_le_of_lt (by decide) hsz) (by kernel_rfl) hpan (by kernel_rfl) hS (wanted_at rfl rfl (n9)) (fun z hz => by have e11 := n11; have f11 := n11.eval; unfold At at e11; have k0 := heap_cell hz (j := 1) rfl; simp [go_sem, e11, k0]) (fun a' hI' n12' hk => ?_)
        replace n9 := hk _ _ n9 rfl
        replace n10 := hk _ _ n10 rfl
        replace n11 := hk _ _ n11 rfl
        have n12 := n12'
        replace hI := hI'
        clear hk hI' n12'
        obtain ⟨act9, rfl⟩ : ∃ x, x = a' := ⟨_, rfl⟩
        clear n11
        have hn1 := below_new v1 (.cells #[.int .i64 d] 3)
        have hcb := first_cell v1 (.int .i64 d) 3 rfl
        have hq1 := below_thn hq hn1
        have hs1 := heap_lft hS hn1
        obtain ⟨v2, hwe⟩ : ∃ x, v1.alloc (.cells #[.int .i64 d] 3) = x := ⟨_, rfl⟩
        rw [hwe] at hn1 hcb hq1 hs1
        refine rest_only (k := 10) (by kernel_rfl) (op_value (k := 10) (d := 13) (v := .slice (some ⟨v1.heap.size, 0, none⟩) 1 1) hI rfl rfl (by kernel_rfl) (Nat.lt_of_le_of_lt (by decide) hsz) (wanted_at rfl rfl (n9)) (by have e12 := n12; have f12 := n12.eval; unfold At at e12; simp [go_sem, e12]; try rfl) (fun a' hI' n13' hk => ⟨by rw [hwe]; exact hs1, ?_⟩))
        replace n9 := hk _ _ n9 rfl
        replace n10 := hk _ _ n10 rfl
        replace n12 := hk _ _ n12 rfl
        have n13 := n13'
        replace hI := hI'
        clear hk hI' n13'
        obtain ⟨act9, rfl⟩ : ∃ x, x = a' := ⟨_, rfl⟩
        rw [hwe]
        replace hS := hs1
        replace hq := hq1
        clear hwe hs1 hq1 hn1
        clear n12
        refine rest_only (k := 11) (by kernel_rfl) (op_call (k := 11) (d := 14) (R := fun v w' => v = .bool r2 ∧ w' = v2.alloc (spanB 0 3652)) hI rfl rfl (by kernel_rfl) (Nat.lt_of_le_of_lt (by decide) hsz) (wanted_at rfl rfl (n9)) ((within1 0 3652 d v1.heap.size 1 _ hcb r2 HR2.out).mono fun e w' g => ⟨_, g.1, rfl, g.2⟩) (by have e10 := n10; have f10 := n10.eval; unfold At at e10; have e13 := n13; have f13 := n13.eval; unfold At at e13; simp [go_sem, e10, e13]) ?_)
        intro v w' a' hR hI' n14' hk
        obtain ⟨rfl, rfl⟩ := hR
        refine ⟨heap_lft hS (below_new _ _), ?_⟩
        replace n9 := hk _ _ n9 rfl
        replace n10 := hk _ _ n10 rfl
        replace n13 := hk _ _ n13 rfl
        have n14 := n14'
        replace hI := hI'
        clear hk hI' n14'
        obtain ⟨act9, rfl⟩ : ∃ x, x = a' := ⟨_, rfl⟩
        replace hS := heap_lft hS (below_new _ (spanB 0 3652))
        replace hq := below_thn hq (below_new _ (spanB 0 3652))
        clear hcb
        obtain ⟨v3, hwe⟩ : ∃ x, v2.alloc (spanB 0 3652) = x := ⟨_, rfl⟩
        rw [hwe] at hS hq ⊢
        clear hwe
        clear n10
        clear n13
        cases r2
        · refine rest_take (k := 12) (d := 15) (v := .bool true) hI rfl rfl (by kernel_rfl) (Nat.lt_of_le_of_lt (by decide) hsz) (by kernel_rfl) hpan (by kernel_rfl) hS (wanted_at rfl rfl (n9)) (fun z hz => by have e14 := n14; have f14 := n14.eval; unfold At at e14; simp [go_sem, e14]) (fun a' hI' n15' hk => ?_)
          replace n9 := hk _ _ n9 rfl
          replace n14 := hk _ _ n14 rfl
          have n15 := n15'
          replace hI := hI'
          clear hk hI' n15'
          obtain ⟨act9, rfl⟩ : ∃ x, x = a' := ⟨_, rfl⟩
          refine rest_take (k := 13) (d := 16) (v := .bool true) hI rfl rfl (by kernel_rfl) (Nat.lt_of_le_of_lt (by decide) hsz) (by kernel_rfl) hpan (by kernel_rfl) hS (wanted_free rfl) (fun z hz => by have e9 := n9; have f9 := n9.eval; unfold At at e9; have e15 := n15; have f15 := n15.eval; unfold At at e15; simp [go_sem, e9, e15]) (fun a' hI' n16' hk => ?_)
          replace n9 := hk _ _ n9 rfl
          replace n14 := hk _ _ n14 rfl
          replace n15 := hk _ _ n15 rfl
          have n16 := n16'
          replace hI := hI'
          clear hk hI' n16'
          obtain ⟨act9, rfl⟩ : ∃ x, x = a' := ⟨_, rfl⟩
          refine rest_take (k := 14) (d := 17) (v := .bool true) hI rfl rfl (by kernel_rfl) (Nat.lt_of_le_of_lt (by decide) hsz) (by kernel_rfl) hpan (by kernel_rfl) hS (wanted_free rfl) (fun z hz => by have e16 := n16; have f16 := n16.eval; unfold At at e16; simp [go_sem, e16]) (fun a' hI' n17' hk => ?_)
          replace n9 := hk _ _ n9 rfl
          replace n14 := hk _ _ n14 rfl
          replace n15 := hk _ _ n15 rfl
          replace n16 := hk _ _ n16 rfl
          have n17 := n17'
          replace hI := hI'
          clear hk hI' n17'
          obtain ⟨act9, rfl⟩ : ∃ x, x = a' := ⟨_, rfl⟩
          clear n14
          clear n15
          clear n16
          refine rest_skip (k := 15) (d := 18) hI rfl rfl (by kernel_rfl) (Nat.lt_of_le_of_lt (by decide) hsz) (by kernel_rfl) hpan (by kernel_rfl) hS (unwanted_at rfl rfl n17 rfl) (fun a' hI' n18' hk => ?_)
          replace n9 := hk _ _ n9 rfl
          replace n17 := hk _ _ n17 rfl
          have n18 := n18'
          replace hI := hI'
          clear hk hI' n18'
          obtain ⟨act9, rfl⟩ : ∃ x, x = a' := ⟨_, rfl⟩
          refine rest_skip (k := 16) (d := 19) hI rfl rfl (by kernel_rfl) (Nat.lt_of_le_of_lt (by decide) hsz) (by kernel_rfl) hpan (by kernel_rfl) hS (unwanted_at rfl rfl n17 rfl) (fun a' hI' n19' hk => ?_)
          replace n9 := hk _ _ n9 rfl
          replace n17 := hk _ _ n17 rfl
          replace n18 := hk _ _ n18 rfl
          have n19 := n19'
          replace hI := hI'
          clear hk hI' n19'
          obtain ⟨act9, rfl⟩ : ∃ x, x = a' := ⟨_, rfl⟩
          refine rest_skip (k := 17) (d := 20) hI rfl rfl (by kernel_rfl) (Nat.lt_of_le_of_lt (by decide) hsz) (by kernel_rfl) hpan (by kernel_rfl) hS (unwanted_at rfl rfl n17 rfl) (fun a' hI' n20' hk => ?_)
          replace n9 := hk _ _ n9 rfl
          replace n17 := hk _ _ n17 rfl
          replace n18 := hk _ _ n18 rfl
          replace n19 := hk _ _ n19 rfl
          have n20 := n20'
          replace hI := hI'
          clear hk hI' n20'
          obtain ⟨act9, rfl⟩ : ∃ x, x = a' := ⟨_, rfl⟩
          refine rest_skip (k := 18) (d := 21) hI rfl rfl (by kernel_rfl) (Nat.lt_of_le_of_lt (by decide) hsz) (by kernel_rfl) hpan (by kernel_rfl) hS (unwanted_at rfl rfl n17 rfl) (fun a' hI' n21' hk => ?_)
          replace n9 := hk _ _ n9 rfl
          replace n17 := hk _ _ n17 rfl
          replace n18 := hk _ _ n18 rfl
          replace n19 := hk _ _ n19 rfl
          replace n20 := hk _ _ n20 rfl
          have n21 := n21'
          replace hI := hI'
          clear hk hI' n21'
          obtain ⟨act9, rfl⟩ : ∃ x, x = a' := ⟨_, rfl⟩
          refine rest_skip (k := 19) (d := 22) hI rfl rfl (by kernel_rfl) (Nat.lt_of_le_of_lt (by decide) hsz) (by kernel_rfl) hpan (by kernel_rfl) hS (unwanted_at rfl rfl n17 rfl) (fun a' hI' n22' hk => ?_)
          replace n9 := hk _ _ n9 rfl
          replace n17 := hk _ _ n17 rfl
          replace n18 := hk _ _ n18 rfl
          replace n19 := hk _ _ n19 rfl
          replace n20 := hk _ _ n20 rfl
          replace n21 := hk _ _ n21 rfl
          have n22 := n22'
          replace hI := hI'
          clear hk hI' n22'
          obtain ⟨act9, rfl⟩ : ∃ x, x = a' := ⟨_, rfl⟩
          refine rest_skip (k := 20) (d := 23) hI rfl rfl (by kernel_rfl) (Nat.lt_of_le_of_lt (by decide) hsz) (by kernel_rfl) hpan (by kernel_rfl) hS (unwanted_at rfl rfl n17 rfl) (fun a' hI' n23' hk => ?_)
          replace n9 := hk _ _ n9 rfl
          replace n17 := hk _ _ n17 rfl
          replace n18 := hk _ _ n18 rfl
          replace n19 := hk _ _ n19 rfl
          replace n20 := hk _ _ n20 rfl
          replace n21 := hk _ _ n21 rfl
          replace n22 := hk _ _ n22 rfl
          have n23 := n23'
          replace hI := hI'
          clear hk hI' n23'
          obtain ⟨act9, rfl⟩ : ∃ x, x = a' := ⟨_, rfl⟩
          refine rest_take (k := 21) (d := 24) (v := .bool true) hI rfl rfl (by kernel_rfl) (Nat.lt_of_le_of_lt (by decide) hsz) (by kernel_rfl) hpan (by kernel_rfl) hS (wanted_free rfl) (fun z hz => by have e17 := n17; have f17 := n17.eval; unfold At at e17; simp [go_sem, e17]) (fun a' hI' n24' hk => ?_)
          replace n9 := hk _ _ n9 rfl
          replace n17 := hk _ _ n17 rfl
          replace n18 := hk _ _ n18 rfl
          replace n19 := hk _ _ n19 rfl
          replace n20 := hk _ _ n20 rfl
          replace n21 := hk _ _ n21 rfl
          replace n22 := hk _ _ n22 rfl
          replace n23 := hk _ _ n23 rfl
          have n24 := n24'
          replace hI := hI'
          clear hk hI' n24'
          obtain ⟨act9, rfl⟩ : ∃ x, x = a' := ⟨_, rfl⟩
          refine rest_take (k := 22) (d := 2) (v := .bool true) hI rfl rfl (by kernel_rfl) (Nat.lt_of_le_of_lt (by decide) hsz) (by kernel_rfl) hpan (by kernel_rfl) hS (wanted_free rfl) (fun z hz => by have e24 := n24; have f24 := n24.eval; unfold At at e24; simp [go_sem, e24]) (fun a' hI' n2' hk => ?_)
          replace n9 := hk _ _ n9 rfl
          replace n17 := hk _ _ n17 rfl
          replace n18 := hk _ _ n18 rfl
          replace n19 := hk _ _ n19 rfl
          replace n20 := hk _ _ n20 rfl
          replace n21 := hk _ _ n21 rfl
          replace n22 := hk _ _ n22 rfl
          replace n23 := hk _ _ n23 rfl
          replace n24 := hk _ _ n24 rfl
          have n2 := n2'
          replace hI := hI'
          clear hk hI' n2'
          obtain ⟨act9, rfl⟩ : ∃ x, x = a' := ⟨_, rfl⟩
          refine rest_done (by kernel_rfl) ?_
          exact hfin _ _ hI n2 hq
        · refine rest_take (k := 12) (d := 15) (v := .bool false) hI rfl rfl (by kernel_rfl) (Nat.lt_of_le_of_lt (by decide) hsz) (by kernel_rfl) hpan (by kernel_rfl) hS (wanted_at rfl rfl (n9)) (fun z hz => by have e14 := n14; have f14 := n14.eval; unfold At at e14; simp [go_sem, e14]) (fun a' hI' n15' hk => ?_)
          replace n9 := hk _ _ n9 rfl
          replace n14 := hk _ _ n14 rfl
          have n15 := n15'
          replace hI := hI'
          clear hk hI' n15'
          obtain ⟨act9, rfl⟩ : ∃ x, x = a' := ⟨_, rfl⟩
          refine rest_take (k := 13) (d := 16) (v := .bool false) hI rfl rfl (by kernel_rfl) (Nat.lt_of_le_of_lt (by decide) hsz) (by kernel_rfl) hpan (by kernel_rfl) hS (wanted_free rfl) (fun z hz => by have e9 := n9; have f9 := n9.eval; unfold At at e9; have e15 := n15; have f15 := n15.eval; unfold At at e15; simp [go_sem, e9, e15]) (fun a' hI' n16' hk => ?_)
          replace n9 := hk _ _ n9 rfl
          replace n14 := hk _ _ n14 rfl
          replace n15 := hk _ _ n15 rfl
          have n16 := n16'
          replace hI := hI'
          clear hk hI' n16'
          obtain ⟨act9, rfl⟩ : ∃ x, x = a' := ⟨_, rfl⟩
          refine rest_take (k := 14) (d := 17) (v := .bool false) hI rfl rfl (by kernel_rfl) (Nat.lt_of_le_of_lt (by decide) hsz) (by kernel_rfl) hpan (by kernel_rfl) hS (wanted_free rfl) (fun z hz => by have e16 := n16; have f16 := n16.eval; unfold At at e16; simp [go_sem, e16]) (fun a' hI' n17' hk => ?_)
          replace n9 := hk _ _ n9 rfl
          replace n14 := hk _ _ n14 rfl
          replace n15 := hk _ _ n15 rfl
          replace n16 := hk _ _ n16 rfl
          have n17 := n17'
          replace hI := hI'
          clear hk hI' n17'
          obtain ⟨act9, rfl⟩ : ∃ x, x = a' := ⟨_, rfl⟩
          clear n14
          clear n15
          clear n16
          refine rest_take (k := 15) (d := 18) (v := spanV 1 6) hI rfl rfl (by kernel_rfl) (Nat.lt_of_le_of_lt (by decide) hsz) (by kernel_rfl) hpan (by kernel_rfl) hS (wanted_at rfl rfl (n17)) (fun z hz => by simp [go_sem]) (fun a' hI' n18' hk => ?_)
          replace n9 := hk _ _ n9 rfl
          replace n17 := hk _ _ n17 rfl
          have n18 := n18'
          replace hI := hI'
          clear hk hI' n18'
          obtain ⟨act9, rfl⟩ : ∃ x, x = a' := ⟨_, rfl⟩
          refine rest_take (k := 16) (d := 19) (v := .pointer (some ⟨w.heap.size, 2, none⟩)) hI rfl rfl (by kernel_rfl) (Nat.lt_of_le_of_lt (by decide) hsz) (by kernel_rfl) hpan (by kernel_rfl) hS (wanted_at rfl rfl (n17)) (fun z hz => by have n1 := hI.at m1 (by kernel_rfl); have e1 := n1; have f1 := n1.eval; unfold At at e1; simp [go_sem, e1]) (fun a' hI' n19' hk => ?_)
          replace n9 := hk _ _ n9 rfl
          replace n17 := hk _ _ n17 rfl
          replace n18 := hk _ _ n18 rfl
          have n19 := n19'
          replace hI := hI'
          clear hk hI' n19'
          obtain ⟨act9, rfl⟩ : ∃ x, x = a' := ⟨_, rfl⟩
          refine rest_take (k := 17) (d := 20) (v := .int .i64 p) hI rfl rfl (by kernel_rfl) (Nat.lt_of_le_of_lt (by decide) hsz) (by kernel_rfl) hpan (by kernel_rfl) hS (wanted_at rfl rfl (n17)) (fun z hz => by have e19 := n19; have f19 := n19.eval; unfold At at e19; have k0 := heap_cell hz (j := 2) rfl; simp [go_sem, e19, k0]) (fun a' hI' n20' hk => ?_)
          replace n9 := hk _ _ n9 rfl
          replace n17 := hk _ _ n17 rfl
          replace n18 := hk _ _ n18 rfl
          replace n19 := hk _ _ n19 rfl
          have n20 := n20'
          replace hI := hI'
          clear hk hI' n20'
          obtain ⟨act9, rfl⟩ : ∃ x, x = a' := ⟨_, rfl⟩
          clear n19
          have hn1 := below_new v3 (.cells #[.int .i64 p] 3)
          have hcb := first_cell v3 (.int .i64 p) 3 rfl
          have hq1 := below_thn hq hn1
          have hs1 := heap_lft hS hn1
          obtain ⟨v4, hwe⟩ : ∃ x, v3.alloc (.cells #[.int .i64 p] 3) = x := ⟨_, rfl⟩
          rw [hwe] at hn1 hcb hq1 hs1
          refine rest_only (k := 18) (by kernel_rfl) (op_value (k := 18) (d := 21) (v := .slice (some ⟨v3.heap.size, 0, none⟩) 1 1) hI rfl rfl (by kernel_rfl) (Nat.lt_of_le_of_lt (by decide) hsz) (wanted_at rfl rfl (n17)) (by have e20 := n20; have f20 := n20.eval; unfold At at e20; simp [go_sem, e20]; try rfl) (fun a' hI' n21' hk => ⟨by rw [hwe]; exact hs1, ?_⟩))
          replace n9 := hk _ _ n9 rfl
          replace n17 := hk _ _ n17 rfl
          replace n18 := hk _ _ n18 rfl
          replace n20 := hk _ _ n20 rfl
          have n21 := n21'
          replace hI := hI'
          clear hk hI' n21'
          obtain ⟨act9, rfl⟩ : ∃ x, x = a' := ⟨_, rfl⟩
          rw [hwe]
          replace hS := hs1
          replace hq := hq1
          clear hwe hs1 hq1 hn1
          clear n20
          refine rest_only (k := 19) (by kernel_rfl) (op_call (k := 19) (d := 22) (R := fun v w' => v = .bool r3 ∧ w' = v4.alloc (spanB 1 6)) hI rfl rfl (by kernel_rfl) (Nat.lt_of_le_of_lt (by decide) hsz) (wanted_at rfl rfl (n17)) ((within1 1 6 p v3.heap.size 1 _ hcb r3 HR3.out).mono fun e w' g => ⟨_, g.1, rfl, g.2⟩) (by have e18 := n18; have f18 := n18.eval; unfold At at e18; have e21 := n21; have f21 := n21.eval; unfold At at e21; simp [go_sem, e18, e21]) ?_)
          intro v w' a' hR hI' n22' hk
          obtain ⟨rfl, rfl⟩ := hR
          refine ⟨heap_lft hS (below_new _ _), ?_⟩
          replace n9 := hk _ _ n9 rfl
          replace n17 := hk _ _ n17 rfl
          replace n18 := hk _ _ n18 rfl
          replace n21 := hk _ _ n21 rfl
          have n22 := n22'
          replace hI := hI'
          clear hk hI' n22'
          obtain ⟨act9, rfl⟩ : ∃ x, x = a' := ⟨_, rfl⟩
          replace hS := heap_lft hS (below_new _ (spanB 1 6))
          replace hq := below_thn hq (below_new _ (spanB 1 6))
          clear hcb
          obtain ⟨v5, hwe⟩ : ∃ x, v4.alloc (spanB 1 6) = x := ⟨_, rfl⟩
          rw [hwe] at hS hq ⊢
          clear hwe
          clear n18
          clear n21
          cases r3
          · refine rest_take (k := 20) (d := 23) (v := .bool true) hI rfl rfl (by kernel_rfl) (Nat.lt_of_le_of_lt (by decide) hsz) (by kernel_rfl) hpan (by kernel_rfl) hS (wanted_at rfl rfl (n17)) (fun z hz => by have e22 := n22; have f22 := n22.eval; unfold At at e22; simp [go_sem, e22]) (fun a' hI' n23' hk => ?_)
            replace n9 := hk _ _ n9 rfl
            replace n17 := hk _ _ n17 rfl
            replace n22 := hk _ _ n22 rfl
            have n23 := n23'
            replace hI := hI'
            clear hk hI' n23'
            obtain ⟨act9, rfl⟩ : ∃ x, x = a' := ⟨_, rfl⟩
            refine rest_take (k := 21) (d := 24) (v := .bool true) hI rfl rfl (by kernel_rfl) (Nat.lt_of_le_of_lt (by decide) hsz) (by kernel_rfl) hpan (by kernel_rfl) hS (wanted_free rfl) (fun z hz => by have e17 := n17; have f17 := n17.eval; unfold At at e17; have e23 := n23; have f23 := n23.eval; unfold At at e23; simp [go_sem, e17, e23]) (fun a' hI' n24' hk => ?_)
            replace n9 := hk _ _ n9 rfl
            replace n17 := hk _ _ n17 rfl
            replace n22 := hk _ _ n22 rfl
            replace n23 := hk _ _ n23 rfl
            have n24 := n24'
            replace hI := hI'
            clear hk hI' n24'
            obtain ⟨act9, rfl⟩ : ∃ x, x = a' := ⟨_, rfl⟩
            refine rest_take (k := 22) (d := 2) (v := .bool true) hI rfl rfl (by kernel_rfl) (Nat.lt_of_le_of_lt (by decide) hsz) (by kernel_rfl) hpan (by kernel_rfl) hS (wanted_free rfl) (fun z hz => by have e24 := n24; have f24 := n24.eval; unfold At at e24; simp [go_sem, e24]) (fun a' hI' n2' hk => ?_)
            replace n9 := hk _ _ n9 rfl
            replace n17 := hk _ _ n17 rfl
            replace n22 := hk _ _ n22 rfl
            replace n23 := hk _ _ n23 rfl
            replace n24 := hk _ _ n24 rfl
            have n2 := n2'
            replace hI := hI'
            clear hk hI' n2'
            obtain ⟨act9, rfl⟩ : ∃ x, x = a' := ⟨_, rfl⟩
            refine rest_done (by kernel_rfl) ?_
            exact hfin _ _ hI n2 hq
          · refine rest_take (k := 20) (d := 23) (v := .bool false) hI rfl rfl (by kernel_rfl) (Nat.lt_of_le_of_lt (by decide) hsz) (by kernel_rfl) hpan (by kernel_rfl) hS (wanted_at rfl rfl (n17)) (fun z hz => by have e22 := n22; have f22 := n22.eval; unfold At at e22; simp [go_sem, e22]) (fun a' hI' n23' hk => ?_)
            replace n9 := hk _ _ n9 rfl
            replace n17 := hk _ _ n17 rfl
            replace n22 := hk _ _ n22 rfl
            have n23 := n23'
            replace hI := hI'
            clear hk hI' n23'
            obtain ⟨act9, rfl⟩ : ∃ x, x = a' := ⟨_, rfl⟩
            refine rest_take (k := 21) (d := 24) (v := .bool false) hI rfl rfl (by kernel_rfl) (Nat.lt_of_le_of_lt (by decide) hsz) (by kernel_rfl) hpan (by kernel_rfl) hS (wanted_free rfl) (fun z hz => by have e17 := n17; have f17 := n17.eval; unfold At at e17; have e23 := n23; have f23 := n23.eval; unfold At at e23; simp [go_sem, e17, e23]) (fun a' hI' n24' hk => ?_)
            replace n9 := hk _ _ n9 rfl
            replace n17 := hk _ _ n17 rfl
            replace n22 := hk _ _ n22 rfl
            replace n23 := hk _ _ n23 rfl
            have n24 := n24'
            replace hI := hI'
            clear hk hI' n24'
            obtain ⟨act9, rfl⟩ : ∃ x, x = a' := ⟨_, rfl⟩
            refine rest_take (k := 22) (d := 2) (v := .bool false) hI rfl rfl (by kernel_rfl) (Nat.lt_of_le_of_lt (by decide) hsz) (by kernel_rfl) hpan (by kernel_rfl) hS (wanted_free rfl) (fun z hz => by have e24 := n24; have f24 := n24.eval; unfold At at e24; simp [go_sem, e24]) (fun a' hI' n2' hk => ?_)
            replace n9 := hk _ _ n9 rfl
            replace n17 := hk _ _ n17 rfl
            replace n22 := hk _ _ n22 rfl
            replace n23 := hk _ _ n23 rfl
            replace n24 := hk _ _ n24 rfl
            have n2 := n2'
            replace hI := hI'
            clear hk hI' n2'
            obtain ⟨act9, rfl⟩ : ∃ x, x = a' := ⟨_, rfl⟩
            refine rest_done (by kernel_rfl) ?_
            exact hfin _ _ hI n2 hq
    rw [hR]
    refine rest_split [0, 3] (by kernel_rfl) rfl (fun i9 hi9 => ?_)
    have hi9' : i9 = 0 ∨ i9 = 3 := by simpa using hi9
    clear hi9
    rcases hi9' with rfl | rfl
    · refine _root_.id (op_call (k := 0) (d := 3) (R := fun v w' => v = spanV 1 9999 ∧ Below wz.heap.size wz w') hI rfl rfl (by kernel_rfl) (Nat.lt_of_le_of_lt (by decide) hsz) (wanted_free rfl) ((ids_any _).mono fun e w' g => ⟨_, g.1, rfl, g.2⟩) (by simp [go_sem]) ?_)
      intro v w' a' hR' hI' n3' hk
      obtain ⟨rfl, hb⟩ := hR'
      refine ⟨heap_lft hS hb, ?_⟩
      replace n5 := hk _ _ n5 rfl
      have n3 := n3'
      replace hI := hI'
      clear hk hI' n3'
      obtain ⟨act9, rfl⟩ : ∃ x, x = a' := ⟨_, rfl⟩
      replace hS := heap_lft hS hb
      replace hq := below_thn hq hb
      clear hb
      obtain ⟨u1, rfl⟩ : ∃ x, x = w' := ⟨_, rfl⟩
      have hn1 := below_new u1 (.cells #[.int .i64 i] 3)
      have hcb := first_cell u1 (.int .i64 i) 3 rfl
      have hq1 := below_thn hq hn1
      have hs1 := heap_lft hS hn1
      obtain ⟨u2, hwe⟩ : ∃ x, u1.alloc (.cells #[.int .i64 i] 3) = x := ⟨_, rfl⟩
      rw [hwe] at hn1 hcb hq1 hs1
      refine rest_only (k := 3) (by kernel_rfl) (op_value (k := 3) (d := 6) (v := .slice (some ⟨u1.heap.size, 0, none⟩) 1 1) hI rfl rfl (by kernel_rfl) (Nat.lt_of_le_of_lt (by decide) hsz) (wanted_free rfl) (by have e5 := n5; have f5 := n5.eval; unfold At at e5; simp [go_sem, e5]; try rfl) (fun a' hI' n6' hk => ⟨by rw [hwe]; exact hs1, ?_⟩))
      replace n5 := hk _ _ n5 rfl
      replace n3 := hk _ _ n3 rfl
      have n6 := n6'
      replace hI := hI'
      clear hk hI' n6'
      obtain ⟨act9, rfl⟩ : ∃ x, x = a' := ⟨_, rfl⟩
      rw [hwe]
      replace hS := hs1
      replace hq := hq1
      clear hwe hs1 hq1 hn1
      rw [← hR]
      exact tl _ _ _ hI n3 n6 hq hcb
    · have hn1 := below_new wz (.cells #[.int .i64 i] 3)
      have hcb := first_cell wz (.int .i64 i) 3 rfl
      have hq1 := below_thn hq hn1
      have hs1 := heap_lft hS hn1
      obtain ⟨u1, hwe⟩ : ∃ x, wz.alloc (.cells #[.int .i64 i] 3) = x := ⟨_, rfl⟩
      rw [hwe] at hn1 hcb hq1 hs1
      refine _root_.id (op_value (k := 3) (d := 6) (v := .slice (some ⟨wz.heap.size, 0, none⟩) 1 1) hI rfl rfl (by kernel_rfl) (Nat.lt_of_le_of_lt (by decide) hsz) (wanted_free rfl) (by have e5 := n5; have f5 := n5.eval; unfold At at e5; simp [go_sem, e5]; try rfl) (fun a' hI' n6' hk => ⟨by rw [hwe]; exact hs1, ?_⟩))
      replace n5 := hk _ _ n5 rfl
      have n6 := n6'
      replace hI := hI'
      clear hk hI' n6'
      obtain ⟨act9, rfl⟩ : ∃ x, x = a' := ⟨_, rfl⟩
      rw [hwe]
      replace hS := hs1
      replace hq := hq1
      clear hwe hs1 hq1 hn1
      refine rest_only (k := 0) (by kernel_rfl) (op_call (k := 0) (d := 3) (R := fun v w' => v = spanV 1 9999 ∧ Below u1.heap.size u1 w') hI rfl rfl (by kernel_rfl) (Nat.lt_of_le_of_lt (by decide) hsz) (wanted_free rfl) ((ids_any _).mono fun e w' g => ⟨_, g.1, rfl, g.2⟩) (by simp [go_sem]) ?_)
      intro v w' a' hR' hI' n3' hk
      obtain ⟨rfl, hb⟩ := hR'
      refine ⟨heap_lft hS hb, ?_⟩
      replace n5 := hk _ _ n5 rfl
      replace n6 := hk _ _ n6 rfl
      have n3 := n3'
      replace hI := hI'
      clear hk hI' n3'
      obtain ⟨act9, rfl⟩ : ∃ x, x = a' := ⟨_, rfl⟩
      replace hq := below_thn hq hb
      replace hcb := below_cell hb hcb
      refine Rest.same (d' := [3, 0, 2, 1]) ?_ (by kernel_rfl)
      rw [← hR]
      exact tl _ _ _ hI n3 n6 hq hcb
  case rest =>
    obtain ⟨u, rfl⟩ : ∃ x, x = wc := ⟨_, rfl⟩
    obtain ⟨rfl, hb⟩ := hcut
    have HB2 := Lib.hid (below_thn HB.out hb)
    clear hb
    go_wp2_with fail
    go_ret
    exact ⟨rfl, HB2.out⟩
theorem follows_any (i d p t i' d' p' t' : Int) (w : World) :
    Calls Tryz.prog 71 #[ringV i d p t, ringV i' d' p' t'] w fun x w' => x = .returned (.bool (decide (i < i') && decide (d ≤ d'))) ∧ Below w.heap.size w w' := by
  go_enter Tryz.func71, Tryz.ntmps71
  by_cases h : i < i'
  all_goals
    go_wp2_with fail
    go_ret
    exact ⟨ret_bool (by first | (simp [h]; done) | (simp; omega)), by repeat (first | exact Below.refl _ _ | refine Below.alloc ?_ (by simp; try omega) _)⟩

end Go.Proofs.YtijfdfplebbaaaaGreat
