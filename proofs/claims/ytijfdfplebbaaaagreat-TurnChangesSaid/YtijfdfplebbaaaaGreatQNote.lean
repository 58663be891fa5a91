/-
  The contracts of leadOn and wrongWeighing.
-/
import Derived.Test.YtijfdfplebbaaaaGreatQFit
namespace Go.Proofs.YtijfdfplebbaaaaGreat
open Go.RowKit

namespace Pure
def okOunces (lo hi : Int) : Bool := decide ((0 ≤ lo ∧ lo ≤ 1000000) ∧ (0 ≤ hi ∧ hi ≤ 1000000)) && decide (lo ≤ hi)
def wrongW (n : Nat) (F : Nat → Int) (num pr k lo hi : Int) : Bool := !decide (1 ≤ num ∧ num ≤ 9999) || (decide (index n F pr < 0) || (!decide (1 ≤ k ∧ k ≤ 6) || !okOunces lo hi))
theorem leadP_no {n : Nat} {F : Nat → Int} {k : Nat} (hk : k < n) (h : ¬ (F (k * 4 + 3) = 0 ∨ (k : Int) < index n F (F (k * 4 + 3)))) : leadP n F = false := by
  unfold leadP
  exact decide_eq_false fun g => h (g k hk)
theorem leadP_yes {n : Nat} {F : Nat → Int} (h : ∀ j, j < n → F (j * 4 + 3) = 0 ∨ (j : Int) < index n F (F (j * 4 + 3))) : leadP n F = true := decide_eq_true h
end Pure

set_option maxHeartbeats 4000000 in
set_option maxRecDepth 100000 in
theorem leadOn_any (a : Option Addr) (n c : Nat) (b : Option Addr) (m d : Nat) (F : Nat → Int) (hn : n ≤ 60) (w : World) (hF : NumsAt w a (n * 4) F) :
    Calls Tryz.prog 72 #[pressV a n c b m d] w fun e w' => e = .returned (.bool (Pure.leadP n F)) ∧ Below w.heap.size w w' := by
  obtain ⟨W, hW⟩ : ∃ W, w.alloc (pressB a n c b m d) = W := ⟨_, rfl⟩
  have HB : Hid (Below w.heap.size w W) := Lib.hid (by rw [← hW]; exact below_new _ _)
  have HX : Hid (W.heap[w.heap.size]? = some (pressB a n c b m d)) := Lib.hid (by rw [← hW]; exact heap_top _ _ rfl)
  have HP := Lib.hid (hF.below HB.out)
  clear hF
  have x0 := heap_cell HX.out (j := 0) rfl
  go_enter Tryz.func72, Tryz.ntmps72
  go_upto_region 1 with fail
  try rw [hW]
  clear hW
  go_wp2_with fail
  clear x0
  go_loopw [3, 4, 8] (fun _ _ i wr => ∃ k : Nat, k ≤ n ∧ i = .int .i64 k ∧ (∀ j, j < k → F (j * 4 + 3) = 0 ∨ (j : Int) < Pure.index n F (F (j * 4 + 3))) ∧ Below W.heap.size W wr) (fun _ _ i _ => n - (intOf i).toNat)
  case atStart => exact ⟨0, Nat.zero_le _, rfl, fun j hj => by omega, Below.refl _ _⟩
  case round =>
    obtain ⟨k, hk, rfl, hq, hb⟩ := hrel
    have HQ := Lib.hid hq
    have HBk := Lib.hid hb
    have HXk := Lib.hid (heap_lft HX.out hb)
    have HPk := Lib.hid (HP.out.below hb)
    clear hq hb
    by_cases hk1 : k < n
    · obtain ⟨bb, off, rfl, _⟩ := HP.out (k * 4) (by omega)
      have n1 : (k : Int) < n := by omega
      have c0 := HPk.out.at (show k * 4 < n * 4 by omega)
      have c1 := nums_row HPk.out (show k * 4 + 1 < n * 4 by omega)
      have c2 := nums_row HPk.out (show k * 4 + 2 < n * 4 by omega)
      have c3 := nums_row HPk.out (show k * 4 + 3 < n * 4 by omega)
      obtain ⟨U, hU⟩ : ∃ U, wr.alloc (ringB (F (k * 4)) (F (k * 4 + 1)) (F (k * 4 + 2)) (F (k * 4 + 3))) = U := ⟨_, rfl⟩
      have HBU : Hid (Below W.heap.size W U) := Lib.hid (by rw [← hU]; exact below_thn HBk.out (below_new _ _))
      have HUX : Hid (U.heap[wr.heap.size]? = some (ringB (F (k * 4)) (F (k * 4 + 1)) (F (k * 4 + 2)) (F (k * 4 + 3)))) := Lib.hid (by rw [← hU]; exact heap_top _ _ rfl)
      have u3 := heap_cell HUX.out (j := 3) rfl
      have hx := heap_lft HX.out HBU.out
      have x0 := heap_cell hx (j := 0) rfl
      have x1 := heap_cell hx (j := 1) rfl
      clear hx
      go_upto_region 4 with fail
      try rw [hU]
      clear hU c0 c1 c2 c3
      by_cases ht : F (k * 4 + 3) = 0
      · have HT := Lib.hid ht
        have ht' : (F (k * 4 + 3) != 0) = false := by rw [ht]; rfl
        clear ht
        go_wp2_with fail
        go_roundw
        case rel => exact ⟨k + 1, by omega, by go_num, fun j hj => by
          by_cases e : j = k
          · subst e; exact .inl HT.out
          · exact HQ.out j (by omega), HBU.out⟩
        case measure => simp [intOf]; omega
      · have HT := Lib.hid ht
        have ht' : (F (k * 4 + 3) != 0) = true := by simpa using ht
        clear ht
        go_wp2_with fail
        refine (index_any (some ⟨bb, off, none⟩) n c b m d F (F (k * 4 + 3)) hn _ (HP.out.below HBU.out)).mono ?_
        rintro e u ⟨rfl, hb⟩
        have HB8 := Lib.hid (below_thn HBU.out hb)
        clear hb u3 x0 x1
        obtain ⟨v, hv⟩ : ∃ v, Pure.index n F (F (k * 4 + 3)) = v := ⟨_, rfl⟩
        rw [hv]
        have HV := Lib.hid hv
        clear hv
        by_cases hle : v ≤ (k : Int)
        · go_wp2_with fail
          go_ret
          exact ⟨ret_bool (Pure.leadP_no hk1 (fun g => by
            rcases g with g | g
            · exact HT.out g
            · rw [HV.out] at g; omega)).symm, below_thn HB.out HB8.out⟩
        · go_wp2_with fail
          go_roundw
          case rel => exact ⟨k + 1, by omega, by go_num, fun j hj => by
            by_cases e : j = k
            · subst e; exact .inr (by rw [HV.out]; omega)
            · exact HQ.out j (by omega), HB8.out⟩
          case measure => simp [intOf]; omega
    · obtain rfl : k = n := by omega
      have n1 : ¬ (k : Int) < k := by omega
      go_wp2_with fail
      go_ret
      exact ⟨ret_bool (Pure.leadP_yes HQ.out).symm, below_thn HB.out HBk.out⟩

set_option maxHeartbeats 4000000 in
set_option maxRecDepth 100000 in
theorem wrongW_any (a : Option Addr) (n c : Nat) (b : Option Addr) (m d : Nat) (F : Nat → Int) (num pr k lo hi : Int) (hn : n ≤ 60) (w : World) (hF : NumsAt w a (n * 4) F) :
    Calls Tryz.prog 76 #[pressV a n c b m d, noteV num pr k lo hi] w fun x w' => x = .returned (.bool (Pure.wrongW n F num pr k lo hi)) ∧ Below w.heap.size w w' := by
  unfold Pure.wrongW Pure.okOunces
  obtain ⟨r1, hr1⟩ : ∃ r, decide (1 ≤ num ∧ num ≤ 9999) = r := ⟨_, rfl⟩
  obtain ⟨v2, hv2⟩ : ∃ v, Pure.index n F pr = v := ⟨_, rfl⟩
  obtain ⟨r3, hr3⟩ : ∃ r, decide (1 ≤ k ∧ k ≤ 6) = r := ⟨_, rfl⟩
  obtain ⟨r5, hr5⟩ : ∃ r, decide ((0 ≤ lo ∧ lo ≤ 1000000) ∧ (0 ≤ hi ∧ hi ≤ 1000000)) = r := ⟨_, rfl⟩
  rw [hr1, hv2, hr3, hr5]
  have HR1 := Lib.hid hr1
  have HV2 := Lib.hid hv2
  have HR3 := Lib.hid hr3
  have HR5 := Lib.hid hr5
  clear hr1 hv2 hr3 hr5
  obtain ⟨W, hW⟩ : ∃ W, (w.alloc (pressB a n c b m d)).alloc (noteB num pr k lo hi) = W := ⟨_, rfl⟩
  have HB : Hid (Below w.heap.size w W) := Lib.hid (by rw [← hW]; exact (below_new _ _).alloc (by simp) _)
  have HX : Hid (W.heap[w.heap.size]? = some (pressB a n c b m d)) := Lib.hid (by rw [← hW]; exact heap_up (heap_top _ _ rfl) _)
  have HI : Hid (W.heap[w.heap.size + 1]? = some (noteB num pr k lo hi)) := Lib.hid (by rw [← hW]; exact heap_top _ _ (by simp))
  have HP := Lib.hid (hF.below HB.out)
  clear hF
  have i3 := heap_cell HI.out (j := 3) rfl
  have i4 := heap_cell HI.out (j := 4) rfl
  go_enter Tryz.func76, Tryz.ntmps76
  go_upto_region 1 with fail
  try rw [hW]
  clear hW
  go_cut [5] from 6 to 23 (fun s wx => s = .bool (r5 && decide (lo ≤ hi)) ∧ Below W.heap.size W wx)
  case first =>
    go_wp2_with fail
    refine (within2 0 1000000 lo hi _ _ _ (cells_top _ _ _ (by simp) 0) (cells_top _ _ _ (by simp) 1) r5 HR5.out).mono ?_
    rintro e w' ⟨rfl, rfl⟩
    obtain ⟨M, hM⟩ : ∃ M, (W.alloc (.cells #[.int .i64 lo, .int .i64 hi] 3)).alloc (spanB 0 1000000) = M := ⟨_, rfl⟩
    have HBM : Hid (Below W.heap.size W M) := Lib.hid (by rw [← hM]; exact (below_new _ _).alloc (by simp) _)
    have hi2 := heap_lft HI.out HBM.out
    clear i3 i4
    have i3 := heap_cell hi2 (j := 3) rfl
    have i4 := heap_cell hi2 (j := 4) rfl
    clear hi2
    try rw [hM]
    clear hM
    cases r5
    · go_wp2_with fail
      go_meet
      exact ⟨rfl, HBM.out⟩
    · go_wp2_with fail
      go_meet
      exact ⟨by simp, HBM.out⟩
  case rest =>
    obtain ⟨W1, rfl⟩ : ∃ x, x = wc := ⟨_, rfl⟩
    obtain ⟨rfl, hb⟩ := hcut
    have HX1 := Lib.hid (heap_lft HX.out hb)
    have HI1 := Lib.hid (heap_lft HI.out hb)
    have HB1 := Lib.hid (below_thn HB.out hb)
    have HP1 := Lib.hid (HP.out.below hb)
    clear hb i3 i4
    obtain ⟨ou, hou⟩ : ∃ x, (r5 && decide (lo ≤ hi)) = x := ⟨_, rfl⟩
    rw [hou]
    have HOU := Lib.hid hou
    clear hou
    go_upto_region 2 with fail
    go_cut [4] from 24 to 46 (fun s wx => s = .bool (!r1 || (decide (v2 < 0) || (!r3 || !ou))) ∧ Below W1.heap.size W1 wx)
    case first =>
      rename_i J K' hJ hK'
      generalize hA : (Act.mk _ _ : Act) = a0
      have m2 : At a0 2 (.pointer (some ⟨w.heap.size, 0, none⟩)) := by rw [← hA]; rfl
      have m3 : At a0 3 (.pointer (some ⟨w.heap.size + 1, 0, none⟩)) := by rw [← hA]; rfl
      have m5 : At a0 5 (.bool ou) := by rw [← hA]; rfl
      have hsz : 46 < a0.tmps.size := by rw [← hA]; exact of_decide_eq_true (by kernel_rfl)
      have hfin : ∀ a' w', Kept (4 :: List.range' 24 23) a0 a' → At a' 4 (.bool (!r1 || (decide (v2 < 0) || (!r3 || !ou)))) → (Below W1.heap.size W1 w') → K' a' w' := by
        intro a' w' hI hv4 hL
        refine hK' _ _ (Met.intro (hJ _ _ ⟨a'.tmps.getD 4 undef, a'.tmps.getD 24 undef, a'.tmps.getD 25 undef, a'.tmps.getD 26 undef, a'.tmps.getD 27 undef, a'.tmps.getD 28 undef, a'.tmps.getD 29 undef, a'.tmps.getD 30 undef, a'.tmps.getD 31 undef, a'.tmps.getD 32 undef, a'.tmps.getD 33 undef, a'.tmps.getD 34 undef, a'.tmps.getD 35 undef, a'.tmps.getD 36 undef, a'.tmps.getD 37 undef, a'.tmps.getD 38 undef, a'.tmps.getD 39 undef, a'.tmps.getD 40 undef, a'.tmps.getD 41 undef, a'.tmps.getD 42 undef, a'.tmps.getD 43 undef, a'.tmps.getD 44 undef, a'.tmps.getD 45 undef, a'.tmps.getD 46 undef, ⟨by have g := hv4; unfold At at g; rw [Array.getD_eq_getD_getElem?, g]; rfl, hL⟩, hI.eq.trans ?_⟩))
        rw [← hA]
        kernel_rfl
      have hI : Kept (4 :: List.range' 24 23) a0 a0 := Kept.refl _ _
      clear hA hJ hK' J
      refine with_pan (fun d _ _ _ _ h => by cases d <;> exact h) ?_
      intro hpan
      refine wp_region_rest (fun z => Below W1.heap.size W1 z) (by kernel_rfl) ?_
      obtain ⟨wz, hwz⟩ : ∃ x, W1.drew = x := ⟨_, rfl⟩
      change Rest _ _ _ _ _ _ _ (W1.drew)
      rw [hwz]
      have hq : Below W1.heap.size W1 wz := by rw [← hwz]; exact (Below.refl _ _).drew
      clear hwz
      have hS := hq
      refine rest_take (k := 1) (d := 25) (v := .pointer (some ⟨w.heap.size + 1, 0, none⟩)) hI rfl rfl (by kernel_rfl) (Nat.lt_of_le_of_lt (by decide) hsz) (by kernel_rfl) hpan (by kernel_rfl) hS (wanted_free rfl) (fun z hz => by have n3 := hI.at m3 (by kernel_rfl); have e3 := n3; have f3 := n3.eval; unfold At at e3; simp [go_sem, e3]) (fun a' hI' n25' hk => ?_)
      have n25 := n25'
      replace hI := hI'
      clear hk hI' n25'
      obtain ⟨act9, rfl⟩ : ∃ x, x = a' := ⟨_, rfl⟩
      refine rest_take (k := 2) (d := 26) (v := .int .i64 num) hI rfl rfl (by kernel_rfl) (Nat.lt_of_le_of_lt (by decide) hsz) (by kernel_rfl) hpan (by kernel_rfl) hS (wanted_free rfl) (fun z hz => by have e25 := n25; have f25 := n25.eval; unfold At at e25; have k0 := heap_cell (heap_lft HI1.out hz) (j := 0) rfl; simp [go_sem, e25, k0]) (fun a' hI' n26' hk => ?_)
      replace n25 := hk _ _ n25 rfl
      have n26 := n26'
      replace hI := hI'
      clear hk hI' n26'
      obtain ⟨act9, rfl⟩ : ∃ x, x = a' := ⟨_, rfl⟩
      clear n25
      refine rest_name (fun R hR => ?_)
      have tl : ∀ ac wo B, Kept (4 :: List.range' 24 23) a0 ac → At ac 24 (spanV 1 9999) → At ac 27 (.slice (some ⟨B, 0, none⟩) 1 1) → Below W1.heap.size W1 wo → wo.cell? ⟨B, 0, none⟩ = some (.int .i64 num) → R 20 [3, 0, 2, 1] ac wo := by
        intro ac wo B hI n24 n27 hq hcb
        have hS := hq
        rw [hR]
        refine rest_only (k := 4) (by kernel_rfl) (op_call (k := 4) (d := 28) (R := fun v w' => v = .bool r1 ∧ w' = wo.alloc (spanB 1 9999)) hI rfl rfl (by kernel_rfl) (Nat.lt_of_le_of_lt (by decide) hsz) (wanted_free rfl) ((within1 1 9999 num B 1 _ hcb r1 HR1.out).mono fun e w' g => ⟨_, g.1, rfl, g.2⟩) (by have e24 := n24; have f24 := n24.eval; unfold At at e24; have e27 := n27; have f27 := n27.eval; unfold At at e27; simp [go_sem, e24, e27]) ?_)
        intro v w' a' hR' hI' n28' hk
        obtain ⟨rfl, rfl⟩ := hR'
        refine ⟨below_thn hS (below_new _ _), ?_⟩
        replace n24 := hk _ _ n24 rfl
        replace n27 := hk _ _ n27 rfl
        have n28 := n28'
        replace hI := hI'
        clear hk hI' n28'
        obtain ⟨act9, rfl⟩ : ∃ x, x = a' := ⟨_, rfl⟩
        replace hq := below_thn hq (below_new _ (spanB 1 9999))
        clear hS hcb
        obtain ⟨v1, hwe⟩ : ∃ x, wo.alloc (spanB 1 9999) = x := ⟨_, rfl⟩
        rw [hwe] at hq ⊢
        clear hwe
        have hS := hq
        clear n24
        clear n27
        cases r1
        · refine rest_take (k := 5) (d := 29) (v := .bool true) hI rfl rfl (by kernel_rfl) (Nat.lt_of_le_of_lt (by decide) hsz) (by kernel_rfl) hpan (by kernel_rfl) hS (wanted_free rfl) (fun z hz => by have e28 := n28; have f28 := n28.eval; unfold At at e28; simp [go_sem, e28]) (fun a' hI' n29' hk => ?_)
          replace n28 := hk _ _ n28 rfl
          have n29 := n29'
          replace hI := hI'
          clear hk hI' n29'
          obtain ⟨act9, rfl⟩ : ∃ x, x = a' := ⟨_, rfl⟩
          refine rest_take (k := 6) (d := 30) (v := .bool true) hI rfl rfl (by kernel_rfl) (Nat.lt_of_le_of_lt (by decide) hsz) (by kernel_rfl) hpan (by kernel_rfl) hS (wanted_free rfl) (fun z hz => by have e29 := n29; have f29 := n29.eval; unfold At at e29; simp [go_sem, e29]) (fun a' hI' n30' hk => ?_)
          replace n28 := hk _ _ n28 rfl
          replace n29 := hk _ _ n29 rfl
          have n30 := n30'
          replace hI := hI'
          clear hk hI' n30'
          obtain ⟨act9, rfl⟩ : ∃ x, x = a' := ⟨_, rfl⟩
          clear n28
          clear n29
          refine rest_skip (k := 7) (d := 31) hI rfl rfl (by kernel_rfl) (Nat.lt_of_le_of_lt (by decide) hsz) (by kernel_rfl) hpan (by kernel_rfl) hS (unwanted_at rfl rfl n30 rfl) (fun a' hI' n31' hk => ?_)
          replace n30 := hk _ _ n30 rfl
          have n31 := n31'
          replace hI := hI'
          clear hk hI' n31'
          obtain ⟨act9, rfl⟩ : ∃ x, x = a' := ⟨_, rfl⟩
          refine rest_skip (k := 8) (d := 32) hI rfl rfl (by kernel_rfl) (Nat.lt_of_le_of_lt (by decide) hsz) (by kernel_rfl) hpan (by kernel_rfl) hS (unwanted_at rfl rfl n30 rfl) (fun a' hI' n32' hk => ?_)
          replace n30 := hk _ _ n30 rfl
          replace n31 := hk _ _ n31 rfl
          have n32 := n32'
          replace hI := hI'
          clear hk hI' n32'
          obtain ⟨act9, rfl⟩ : ∃ x, x = a' := ⟨_, rfl⟩
          refine rest_skip (k := 9) (d := 33) hI rfl rfl (by kernel_rfl) (Nat.lt_of_le_of_lt (by decide) hsz) (by kernel_rfl) hpan (by kernel_rfl) hS (unwanted_at rfl rfl n30 rfl) (fun a' hI' n33' hk => ?_)
          replace n30 := hk _ _ n30 rfl
          replace n31 := hk _ _ n31 rfl
          replace n32 := hk _ _ n32 rfl
          have n33 := n33'
          replace hI := hI'
          clear hk hI' n33'
          obtain ⟨act9, rfl⟩ : ∃ x, x = a' := ⟨_, rfl⟩
          refine rest_skip (k := 10) (d := 34) hI rfl rfl (by kernel_rfl) (Nat.lt_of_le_of_lt (by decide) hsz) (by kernel_rfl) hpan (by kernel_rfl) hS (unwanted_at rfl rfl n30 rfl) (fun a' hI' n34' hk => ?_)
          replace n30 := hk _ _ n30 rfl
          replace n31 := hk _ _ n31 rfl
          replace n32 := hk _ _ n32 rfl
          replace n33 := hk _ _ n33 rfl
          have n34 := n34'
          replace hI := hI'
          clear hk hI' n34'
          obtain ⟨act9, rfl⟩ : ∃ x, x = a' := ⟨_, rfl⟩
          refine rest_skip (k := 11) (d := 35) hI rfl rfl (by kernel_rfl) (Nat.lt_of_le_of_lt (by decide) hsz) (by kernel_rfl) hpan (by kernel_rfl) hS (unwanted_at rfl rfl n30 rfl) (fun a' hI' n35' hk => ?_)
          replace n30 := hk _ _ n30 rfl
          replace n31 := hk _ _ n31 rfl
          replace n32 := hk _ _ n32 rfl
          replace n33 := hk _ _ n33 rfl
          replace n34 := hk _ _ n34 rfl
          have n35 := n35'
          replace hI := hI'
          clear hk hI' n35'
          obtain ⟨act9, rfl⟩ : ∃ x, x = a' := ⟨_, rfl⟩
          refine rest_take (k := 12) (d := 36) (v := .bool true) hI rfl rfl (by kernel_rfl) (Nat.lt_of_le_of_lt (by decide) hsz) (by kernel_rfl) hpan (by kernel_rfl) hS (wanted_free rfl) (fun z hz => by have e30 := n30; have f30 := n30.eval; unfold At at e30; simp [go_sem, e30]) (fun a' hI' n36' hk => ?_)
          replace n30 := hk _ _ n30 rfl
          replace n31 := hk _ _ n31 rfl
          replace n32 := hk _ _ n32 rfl
          replace n33 := hk _ _ n33 rfl
          replace n34 := hk _ _ n34 rfl
          replace n35 := hk _ _ n35 rfl
          have n36 := n36'
          replace hI := hI'
          clear hk hI' n36'
          obtain ⟨act9, rfl⟩ : ∃ x, x = a' := ⟨_, rfl⟩
          refine rest_take (k := 13) (d := 37) (v := .bool true) hI rfl rfl (by kernel_rfl) (Nat.lt_of_le_of_lt (by decide) hsz) (by kernel_rfl) hpan (by kernel_rfl) hS (wanted_free rfl) (fun z hz => by have e36 := n36; have f36 := n36.eval; unfold At at e36; simp [go_sem, e36]) (fun a' hI' n37' hk => ?_)
          replace n30 := hk _ _ n30 rfl
          replace n31 := hk _ _ n31 rfl
          replace n32 := hk _ _ n32 rfl
          replace n33 := hk _ _ n33 rfl
          replace n34 := hk _ _ n34 rfl
          replace n35 := hk _ _ n35 rfl
          replace n36 := hk _ _ n36 rfl
          have n37 := n37'
          replace hI := hI'
          clear hk hI' n37'
          obtain ⟨act9, rfl⟩ : ∃ x, x = a' := ⟨_, rfl⟩
          refine rest_skip (k := 14) (d := 38) hI rfl rfl (by kernel_rfl) (Nat.lt_of_le_of_lt (by decide) hsz) (by kernel_rfl) hpan (by kernel_rfl) hS (unwanted_at rfl rfl n37 rfl) (fun a' hI' n38' hk => ?_)
          replace n30 := hk _ _ n30 rfl
          replace n31 := hk _ _ n31 rfl
          replace n32 := hk _ _ n32 rfl
          replace n33 := hk _ _ n33 rfl
          replace n34 := hk _ _ n34 rfl
          replace n35 := hk _ _ n35 rfl
          replace n36 := hk _ _ n36 rfl
          replace n37 := hk _ _ n37 rfl
          have n38 := n38'
          replace hI := hI'
          clear hk hI' n38'
          obtain ⟨act9, rfl⟩ : ∃ x, x = a' := ⟨_, rfl⟩
          refine rest_skip (k := 15) (d := 39) hI rfl rfl (by kernel_rfl) (Nat.lt_of_le_of_lt (by decide) hsz) (by kernel_rfl) hpan (by kernel_rfl) hS (unwanted_at rfl rfl n37 rfl) (fun a' hI' n39' hk => ?_)
          replace n30 := hk _ _ n30 rfl
          replace n31 := hk _ _ n31 rfl
          replace n32 := hk _ _ n32 rfl
          replace n33 := hk _ _ n33 rfl
          replace n34 := hk _ _ n34 rfl
          replace n35 := hk _ _ n35 rfl
          replace n36 := hk _ _ n36 rfl
          replace n37 := hk _ _ n37 rfl
          replace n38 := hk _ _ n38 rfl
          have n39 := n39'
          replace hI := hI'
          clear hk hI' n39'
          obtain ⟨act9, rfl⟩ : ∃ x, x = a' := ⟨_, rfl⟩
          refine rest_skip (k := 16) (d := 40) hI rfl rfl (by kernel_rfl) (Nat.lt_of_le_of_lt (by decide) hsz) (by kernel_rfl) hpan (by kernel_rfl) hS (unwanted_at rfl rfl n37 rfl) (fun a' hI' n40' hk => ?_)
          replace n30 := hk _ _ n30 rfl
          replace n31 := hk _ _ n31 rfl
          replace n32 := hk _ _ n32 rfl
          replace n33 := hk _ _ n33 rfl
          replace n34 := hk _ _ n34 rfl
          replace n35 := hk _ _ n35 rfl
          replace n36 := hk _ _ n36 rfl
          replace n37 := hk _ _ n37 rfl
          replace n38 := hk _ _ n38 rfl
          replace n39 := hk _ _ n39 rfl
          have n40 := n40'
          replace hI := hI'
          clear hk hI' n40'
          obtain ⟨act9, rfl⟩ : ∃ x, x = a' := ⟨_, rfl⟩
          refine rest_skip (k := 17) (d := 41) hI rfl rfl (by kernel_rfl) (Nat.lt_of_le_of_lt (by decide) hsz) (by kernel_rfl) hpan (by kernel_rfl) hS (unwanted_at rfl rfl n37 rfl) (fun a' hI' n41' hk => ?_)
          replace n30 := hk _ _ n30 rfl
          replace n31 := hk _ _ n31 rfl
          replace n32 := hk _ _ n32 rfl
          replace n33 := hk _ _ n33 rfl
          replace n34 := hk _ _ n34 rfl
          replace n35 := hk _ _ n35 rfl
          replace n36 := hk _ _ n36 rfl
          replace n37 := hk _ _ n37 rfl
          replace n38 := hk _ _ n38 rfl
          replace n39 := hk _ _ n39 rfl
          replace n40 := hk _ _ n40 rfl
          have n41 := n41'
          replace hI := hI'
          clear hk hI' n41'
          obtain ⟨act9, rfl⟩ : ∃ x, x = a' := ⟨_, rfl⟩
          refine rest_take (k := 18) (d := 42) (v := .bool true) hI rfl rfl (by kernel_rfl) (Nat.lt_of_le_of_lt (by decide) hsz) (by kernel_rfl) hpan (by kernel_rfl) hS (wanted_free rfl) (fun z hz => by have e37 := n37; have f37 := n37.eval; unfold At at e37; simp [go_sem, e37]) (fun a' hI' n42' hk => ?_)
          replace n30 := hk _ _ n30 rfl
          replace n31 := hk _ _ n31 rfl
          replace n32 := hk _ _ n32 rfl
          replace n33 := hk _ _ n33 rfl
          replace n34 := hk _ _ n34 rfl
          replace n35 := hk _ _ n35 rfl
          replace n36 := hk _ _ n36 rfl
          replace n37 := hk _ _ n37 rfl
          replace n38 := hk _ _ n38 rfl
          replace n39 := hk _ _ n39 rfl
          replace n40 := hk _ _ n40 rfl
          replace n41 := hk _ _ n41 rfl
          have n42 := n42'
          replace hI := hI'
          clear hk hI' n42'
          obtain ⟨act9, rfl⟩ : ∃ x, x = a' := ⟨_, rfl⟩
          refine rest_take (k := 19) (d := 43) (v := .bool true) hI rfl rfl (by kernel_rfl) (Nat.lt_of_le_of_lt (by decide) hsz) (by kernel_rfl) hpan (by kernel_rfl) hS (wanted_free rfl) (fun z hz => by have e42 := n42; have f42 := n42.eval; unfold At at e42; simp [go_sem, e42]) (fun a' hI' n43' hk => ?_)
          replace n30 := hk _ _ n30 rfl
          replace n31 := hk _ _ n31 rfl
          replace n32 := hk _ _ n32 rfl
          replace n33 := hk _ _ n33 rfl
          replace n34 := hk _ _ n34 rfl
          replace n35 := hk _ _ n35 rfl
          replace n36 := hk _ _ n36 rfl
          replace n37 := hk _ _ n37 rfl
          replace n38 := hk _ _ n38 rfl
          replace n39 := hk _ _ n39 rfl
          replace n40 := hk _ _ n40 rfl
          replace n41 := hk _ _ n41 rfl
          replace n42 := hk _ _ n42 rfl
          have n43 := n43'
          replace hI := hI'
          clear hk hI' n43'
          obtain ⟨act9, rfl⟩ : ∃ x, x = a' := ⟨_, rfl⟩
          refine rest_skip (k := 20) (d := 44) hI rfl rfl (by kernel_rfl) (Nat.lt_of_le_of_lt (by decide) hsz) (by kernel_rfl) hpan (by kernel_rfl) hS (unwanted_at rfl rfl n43 rfl) (fun a' hI' n44' hk => ?_)
          replace n30 := hk _ _ n30 rfl
          replace n31 := hk _ _ n31 rfl
          replace n32 := hk _ _ n32 rfl
          replace n33 := hk _ _ n33 rfl
          replace n34 := hk _ _ n34 rfl
          replace n35 := hk _ _ n35 rfl
          replace n36 := hk _ _ n36 rfl
          replace n37 := hk _ _ n37 rfl
          replace n38 := hk _ _ n38 rfl
          replace n39 := hk _ _ n39 rfl
          replace n40 := hk _ _ n40 rfl
          replace n41 := hk _ _ n41 rfl
          replace n42 := hk _ _ n42 rfl
          replace n43 := hk _ _ n43 rfl
          have n44 := n44'
          replace hI := hI'
          clear hk hI' n44'
          obtain ⟨act9, rfl⟩ : ∃ x, x = a' := ⟨_, rfl⟩
          refine rest_skip (k := 21) (d := 45) hI rfl rfl (by kernel_rfl) (Nat.lt_of_le_of_lt (by decide) hsz) (by kernel_rfl) hpan (by kernel_rfl) hS (unwanted_at rfl rfl n43 rfl) (fun a' hI' n45' hk => ?_)
          replace n30 := hk _ _ n30 rfl
          replace n31 := hk _ _ n31 rfl
          replace n32 := hk _ _ n32 rfl
          replace n33 := hk _ _ n33 rfl
          replace n34 := hk _ _ n34 rfl
          replace n35 := hk _ _ n35 rfl
          replace n36 := hk _ _ n36 rfl
          replace n37 := hk _ _ n37 rfl
          replace n38 := hk _ _ n38 rfl
          replace n39 := hk _ _ n39 rfl
          replace n40 := hk _ _ n40 rfl
          replace n41 := hk _ _ n41 rfl
          replace n42 := hk _ _ n42 rfl
          replace n43 := hk _ _ n43 rfl
          replace n44 := hk _ _ n44 rfl
          have n45 := n45'
          replace hI := hI'
          clear hk hI' n45'
          obtain ⟨act9, rfl⟩ : ∃ x, x = a' := ⟨_, rfl⟩
          refine rest_take (k := 22) (d := 46) (v := .bool true) hI rfl rfl (by kernel_rfl) (Nat.lt_of_le_of_lt (by decide) hsz) (by kernel_rfl) hpan (by kernel_rfl) hS (wanted_free rfl) (fun z hz => by have e43 := n43; have f43 := n43.eval; unfold At at e43; simp [go_sem, e43]) (fun a' hI' n46' hk => ?_)
          replace n30 := hk _ _ n30 rfl
          replace n31 := hk _ _ n31 rfl
          replace n32 := hk _ _ n32 rfl
          replace n33 := hk _ _ n33 rfl
          replace n34 := hk _ _ n34 rfl
          replace n35 := hk _ _ n35 rfl
          replace n36 := hk _ _ n36 rfl
          replace n37 := hk _ _ n37 rfl
          replace n38 := hk _ _ n38 rfl
          replace n39 := hk _ _ n39 rfl
          replace n40 := hk _ _ n40 rfl
          replace n41 := hk _ _ n41 rfl
          replace n42 := hk _ _ n42 rfl
          replace n43 := hk _ _ n43 rfl
          replace n44 := hk _ _ n44 rfl
          replace n45 := hk _ _ n45 rfl
          have n46 := n46'
          replace hI := hI'
          clear hk hI' n46'
          obtain ⟨act9, rfl⟩ : ∃ x, x = a' := ⟨_, rfl⟩
          refine rest_take (k := 23) (d := 4) (v := .bool true) hI rfl rfl (by kernel_rfl) (Nat.lt_of_le_of_lt (by decide) hsz) (by kernel_rfl) hpan (by kernel_rfl) hS (wanted_free rfl) (fun z hz => by have e46 := n46; have f46 := n46.eval; unfold At at e46; simp [go_sem, e46]) (fun a' hI' n4' hk => ?_)
          replace n30 := hk _ _ n30 rfl
          replace n31 := hk _ _ n31 rfl
          replace n32 := hk _ _ n32 rfl
          replace n33 := hk _ _ n33 rfl
          replace n34 := hk _ _ n34 rfl
          replace n35 := hk _ _ n35 rfl
          replace n36 := hk _ _ n36 rfl
          replace n37 := hk _ _ n37 rfl
          replace n38 := hk _ _ n38 rfl
          replace n39 := hk _ _ n39 rfl
          replace n40 := hk _ _ n40 rfl
          replace n41 := hk _ _ n41 rfl
          replace n42 := hk _ _ n42 rfl
          replace n43 := hk _ _ n43 rfl
          replace n44 := hk _ _ n44 rfl
          replace n45 := hk _ _ n45 rfl
          replace n46 := hk _ _ n46 rfl
          have n4 := n4'
          replace hI := hI'
          clear hk hI' n4'
          obtain ⟨act9, rfl⟩ : ∃ x, x = a' := ⟨_, rfl⟩
          refine rest_done (by kernel_rfl) ?_
          exact hfin _ _ hI n4 hq
        · refine rest_take (k := 5) (d := 29) (v := .bool false) hI rfl rfl (by kernel_rfl) (Nat.lt_of_le_of_lt (by decide) hsz) (by kernel_rfl) hpan (by kernel_rfl) hS (wanted_free rfl) (fun z hz => by have e28 := n28; have f28 := n28.eval; unfold At at e28; simp [go_sem, e28]) (fun a' hI' n29' hk => ?_)
          replace n28 := hk _ _ n28 rfl
          have n29 := n29'
          replace hI := hI'
          clear hk hI' n29'
          obtain ⟨act9, rfl⟩ : ∃ x, x = a' := ⟨_, rfl⟩
          refine rest_take (k := 6) (d := 30) (v := .bool false) hI rfl rfl (by kernel_rfl) (Nat.lt_of_le_of_lt (by decide) hsz) (by kernel_rfl) hpan (by kernel_rfl) hS (wanted_free rfl) (fun z hz => by have e29 := n29; have f29 := n29.eval; unfold At at e29; simp [go_sem, e29]) (fun a' hI' n30' hk => ?_)
          replace n28 := hk _ _ n28 rfl
          replace n29 := hk _ _ n29 rfl
          have n30 := n30'
          replace hI := hI'
          clear hk hI' n30'
          obtain ⟨act9, rfl⟩ : ∃ x, x = a' := ⟨_, rfl⟩
          clear n28
          clear n29
          refine rest_take (k := 7) (d := 31) (v := pressV a n c b m d) hI rfl rfl (by kernel_rfl) (Nat.lt_of_le_of_lt (by decide) hsz) (by kernel_rfl) hpan (by kernel_rfl) hS (wanted_at rfl rfl (n30)) (fun z hz => by have n2 := hI.at m2 (by kernel_rfl); have e2 := n2; have f2 := n2.eval; unfold At at e2; have k0 := heap_cell (heap_lft HX1.out hz) (j := 0) rfl; have k1 := heap_cell (heap_lft HX1.out hz) (j := 1) rfl; simp [go_sem, e2, k0, k1]) (fun a' hI' n31' hk => ?_)
          replace n30 := hk _ _ n30 rfl
          have n31 := n31'
          replace hI := hI'
          clear hk hI' n31'
          obtain ⟨act9, rfl⟩ : ∃ x, x = a' := ⟨_, rfl⟩
          refine rest_take (k := 8) (d := 32) (v := .pointer (some ⟨w.heap.size + 1, 1, none⟩)) hI rfl rfl (by kernel_rfl) (Nat.lt_of_le_of_lt (by decide) hsz) (by kernel_rfl) hpan (by kernel_rfl) hS (wanted_at rfl rfl (n30)) (fun z hz => by have n3 := hI.at m3 (by kernel_rfl); have e3 := n3; have f3 := n3.eval; unfold At at e3; simp [go_sem, e3]) (fun a' hI' n32' hk => ?_)
          replace n30 := hk _ _ n30 rfl
          replace n31 := hk _ _ n31 rfl
          have n32 := n32'
          replace hI := hI'
          clear hk hI' n32'
          obtain ⟨act9, rfl⟩ : ∃ x, x = a' := ⟨_, rfl⟩
          refine rest_take (k := 9) (d := 33) (v := .int .i64 pr) hI rfl rfl (by kernel_rfl) (Nat.lt_of_le_of_lt (by decide) hsz) (by kernel_rfl) hpan (by kernel_rfl) hS (wanted_at rfl rfl (n30)) (fun z hz => by have e32 := n32; have f32 := n32.eval; unfold At at e32; have k0 := heap_cell (heap_lft HI1.out hz) (j := 1) rfl; simp [go_sem, e32, k0]) (fun a' hI' n33' hk => ?_)
          replace n30 := hk _ _ n30 rfl
          replace n31 := hk _ _ n31 rfl
          replace n32 := hk _ _ n32 rfl
          have n33 := n33'
          replace hI := hI'
          clear hk hI' n33'
          obtain ⟨act9, rfl⟩ : ∃ x, x = a' := ⟨_, rfl⟩
          clear n32
          refine rest_only (k := 10) (by kernel_rfl) (op_call (k := 10) (d := 34) (R := fun v w' => v = .int .i64 v2 ∧ Below v1.heap.size v1 w') hI rfl rfl (by kernel_rfl) (Nat.lt_of_le_of_lt (by decide) hsz) (wanted_at rfl rfl (n30)) ((index_any a n c b m d F pr hn _ (HP1.out.below hq)).mono fun e w' g => ⟨_, g.1, congrArg (Value.int .i64) HV2.out, g.2⟩) (by have e31 := n31; have f31 := n31.eval; unfold At at e31; have e33 := n33; have f33 := n33.eval; unfold At at e33; simp [go_sem, e31, e33]) ?_)
          intro v w' a' hR' hI' n34' hk
          obtain ⟨rfl, hb⟩ := hR'
          refine ⟨below_thn hS hb, ?_⟩
          replace n30 := hk _ _ n30 rfl
          replace n31 := hk _ _ n31 rfl
          replace n33 := hk _ _ n33 rfl
          have n34 := n34'
          replace hI := hI'
          clear hk hI' n34'
          obtain ⟨act9, rfl⟩ : ∃ x, x = a' := ⟨_, rfl⟩
          replace hq := below_thn hq hb
          clear hS hb
          have hS := hq
          obtain ⟨v3, rfl⟩ : ∃ x, x = w' := ⟨_, rfl⟩
          clear n31
          clear n33
          refine rest_take (k := 11) (d := 35) (v := .bool (decide (v2 < 0))) hI rfl rfl (by kernel_rfl) (Nat.lt_of_le_of_lt (by decide) hsz) (by kernel_rfl) hpan (by kernel_rfl) hS (wanted_at rfl rfl (n30)) (fun z hz => by have e34 := n34; have f34 := n34.eval; unfold At at e34; simp [go_sem, e34]) (fun a' hI' n35' hk => ?_)
          replace n30 := hk _ _ n30 rfl
          replace n34 := hk _ _ n34 rfl
          have n35 := n35'
          replace hI := hI'
          clear hk hI' n35'
          obtain ⟨act9, rfl⟩ : ∃ x, x = a' := ⟨_, rfl⟩
          clear n34
          obtain ⟨r2, hr2⟩ : ∃ r, decide (v2 < 0) = r := ⟨_, rfl⟩
          have HR2 := Lib.hid hr2
          rw [hr2] at n35
          clear hr2
          cases r2
          · have hfin' := hfin
            rw [HR2.out] at hfin'
            clear hfin
            have hfin := hfin'
            refine rest_take (k := 12) (d := 36) (v := .bool false) hI rfl rfl (by kernel_rfl) (Nat.lt_of_le_of_lt (by decide) hsz) (by kernel_rfl) hpan (by kernel_rfl) hS (wanted_free rfl) (fun z hz => by have e30 := n30; have f30 := n30.eval; unfold At at e30; have e35 := n35; have f35 := n35.eval; unfold At at e35; simp [go_sem, e30, e35]) (fun a' hI' n36' hk => ?_)
            replace n30 := hk _ _ n30 rfl
            replace n35 := hk _ _ n35 rfl
            have n36 := n36'
            replace hI := hI'
            clear hk hI' n36'
            obtain ⟨act9, rfl⟩ : ∃ x, x = a' := ⟨_, rfl⟩
            refine rest_take (k := 13) (d := 37) (v := .bool false) hI rfl rfl (by kernel_rfl) (Nat.lt_of_le_of_lt (by decide) hsz) (by kernel_rfl) hpan (by kernel_rfl) hS (wanted_free rfl) (fun z hz => by have e36 := n36; have f36 := n36.eval; unfold At at e36; simp [go_sem, e36]) (fun a' hI' n37' hk => ?_)
            replace n30 := hk _ _ n30 rfl
            replace n35 := hk _ _ n35 rfl
            replace n36 := hk _ _ n36 rfl
            have n37 := n37'
            replace hI := hI'
            clear hk hI' n37'
            obtain ⟨act9, rfl⟩ : ∃ x, x = a' := ⟨_, rfl⟩
            clear n35
            clear n36
            refine rest_take (k := 14) (d := 38) (v := .pointer (some ⟨w.heap.size + 1, 2, none⟩)) hI rfl rfl (by kernel_rfl) (Nat.lt_of_le_of_lt (by decide) hsz) (by kernel_rfl) hpan (by kernel_rfl) hS (wanted_at rfl rfl (n37)) (fun z hz => by have n3 := hI.at m3 (by kernel_rfl); have e3 := n3; have f3 := n3.eval; unfold At at e3; simp [go_sem, e3]) (fun a' hI' n38' hk => ?_)
            replace n30 := hk _ _ n30 rfl
            replace n37 := hk _ _ n37 rfl
            have n38 := n38'
            replace hI := hI'
            clear hk hI' n38'
            obtain ⟨act9, rfl⟩ : ∃ x, x = a' := ⟨_, rfl⟩
            refine rest_take (k := 15) (d := 39) (v := .int .i64 k) hI rfl rfl (by kernel_rfl) (Nat.lt_of_le_of_lt (by decide) hsz) (by kernel_rfl) hpan (by kernel_rfl) hS (wanted_at rfl rfl (n37)) (fun z hz => by have e38 := n38; have f38 := n38.eval; unfold At at e38; have k0 := heap_cell (heap_lft HI1.out hz) (j := 2) rfl; simp [go_sem, e38, k0]) (fun a' hI' n39' hk => ?_)
            replace n30 := hk _ _ n30 rfl
            replace n37 := hk _ _ n37 rfl
            replace n38 := hk _ _ n38 rfl
            have n39 := n39'
            replace hI := hI'
            clear hk hI' n39'
            obtain ⟨act9, rfl⟩ : ∃ x, x = a' := ⟨_, rfl⟩
            clear n38
            refine rest_only (k := 16) (by kernel_rfl) (op_call (k := 16) (d := 40) (R := fun v w' => v = .int .i64 (Pure.err r3 2) ∧ Below v3.heap.size v3 w') hI rfl rfl (by kernel_rfl) (Nat.lt_of_le_of_lt (by decide) hsz) (wanted_at rfl rfl (n37)) ((checkKind_any k _).mono fun e w' g => ⟨_, g.1, by rw [HR3.out], g.2⟩) (by have e39 := n39; have f39 := n39.eval; unfold At at e39; simp [go_sem, e39]) ?_)
            intro v w' a' hR' hI' n40' hk
            obtain ⟨rfl, hb⟩ := hR'
            refine ⟨below_thn hS hb, ?_⟩
            replace n30 := hk _ _ n30 rfl
            replace n37 := hk _ _ n37 rfl
            replace n39 := hk _ _ n39 rfl
            have n40 := n40'
            replace hI := hI'
            clear hk hI' n40'
            obtain ⟨act9, rfl⟩ : ∃ x, x = a' := ⟨_, rfl⟩
            replace hq := below_thn hq hb
            clear hS hb
            have hS := hq
            obtain ⟨v4, rfl⟩ : ∃ x, x = w' := ⟨_, rfl⟩
            clear n39
            cases r3
            · have e3 : Pure.err false 2 = 2 := rfl
              rw [e3] at n40
              clear e3
              refine rest_take (k := 17) (d := 41) (v := .bool true) hI rfl rfl (by kernel_rfl) (Nat.lt_of_le_of_lt (by decide) hsz) (by kernel_rfl) hpan (by kernel_rfl) hS (wanted_at rfl rfl (n37)) (fun z hz => by have e40 := n40; have f40 := n40.eval; unfold At at e40; simp [go_sem, e40]) (fun a' hI' n41' hk => ?_)
              replace n30 := hk _ _ n30 rfl
              replace n37 := hk _ _ n37 rfl
              replace n40 := hk _ _ n40 rfl
              have n41 := n41'
              replace hI := hI'
              clear hk hI' n41'
              obtain ⟨act9, rfl⟩ : ∃ x, x = a' := ⟨_, rfl⟩
              refine rest_take (k := 18) (d := 42) (v := .bool true) hI rfl rfl (by kernel_rfl) (Nat.lt_of_le_of_lt (by decide) hsz) (by kernel_rfl) hpan (by kernel_rfl) hS (wanted_free rfl) (fun z hz => by have e37 := n37; have f37 := n37.eval; unfold At at e37; have e41 := n41; have f41 := n41.eval; unfold At at e41; simp [go_sem, e37, e41]) (fun a' hI' n42' hk => ?_)
              replace n30 := hk _ _ n30 rfl
              replace n37 := hk _ _ n37 rfl
              replace n40 := hk _ _ n40 rfl
              replace n41 := hk _ _ n41 rfl
              have n42 := n42'
              replace hI := hI'
              clear hk hI' n42'
              obtain ⟨act9, rfl⟩ : ∃ x, x = a' := ⟨_, rfl⟩
              refine rest_take (k := 19) (d := 43) (v := .bool true) hI rfl rfl (by kernel_rfl) (Nat.lt_of_le_of_lt (by decide) hsz) (by kernel_rfl) hpan (by kernel_rfl) hS (wanted_free rfl) (fun z hz => by have e42 := n42; have f42 := n42.eval; unfold At at e42; simp [go_sem, e42]) (fun a' hI' n43' hk => ?_)
              replace n30 := hk _ _ n30 rfl
              replace n37 := hk _ _ n37 rfl
              replace n40 := hk _ _ n40 rfl
              replace n41 := hk _ _ n41 rfl
              replace n42 := hk _ _ n42 rfl
              have n43 := n43'
              replace hI := hI'
              clear hk hI' n43'
              obtain ⟨act9, rfl⟩ : ∃ x, x = a' := ⟨_, rfl⟩
              clear n40
              clear n41
              clear n42
              refine rest_skip (k := 20) (d := 44) hI rfl rfl (by kernel_rfl) (Nat.lt_of_le_of_lt (by decide) hsz) (by kernel_rfl) hpan (by kernel_rfl) hS (unwanted_at rfl rfl n43 rfl) (fun a' hI' n44' hk => ?_)
              replace n30 := hk _ _ n30 rfl
              replace n37 := hk _ _ n37 rfl
              replace n43 := hk _ _ n43 rfl
              have n44 := n44'
              replace hI := hI'
              clear hk hI' n44'
              obtain ⟨act9, rfl⟩ : ∃ x, x = a' := ⟨_, rfl⟩
              refine rest_skip (k := 21) (d := 45) hI rfl rfl (by kernel_rfl) (Nat.lt_of_le_of_lt (by decide) hsz) (by kernel_rfl) hpan (by kernel_rfl) hS (unwanted_at rfl rfl n43 rfl) (fun a' hI' n45' hk => ?_)
              replace n30 := hk _ _ n30 rfl
              replace n37 := hk _ _ n37 rfl
              replace n43 := hk _ _ n43 rfl
              replace n44 := hk _ _ n44 rfl
              have n45 := n45'
              replace hI := hI'
              clear hk hI' n45'
              obtain ⟨act9, rfl⟩ : ∃ x, x = a' := ⟨_, rfl⟩
              refine rest_take (k := 22) (d := 46) (v := .bool true) hI rfl rfl (by kernel_rfl) (Nat.lt_of_le_of_lt (by decide) hsz) (by kernel_rfl) hpan (by kernel_rfl) hS (wanted_free rfl) (fun z hz => by have e43 := n43; have f43 := n43.eval; unfold At at e43; simp [go_sem, e43]) (fun a' hI' n46' hk => ?_)
              replace n30 := hk _ _ n30 rfl
              replace n37 := hk _ _ n37 rfl
              replace n43 := hk _ _ n43 rfl
              replace n44 := hk _ _ n44 rfl
              replace n45 := hk _ _ n45 rfl
              have n46 := n46'
              replace hI := hI'
              clear hk hI' n46'
              obtain ⟨act9, rfl⟩ : ∃ x, x = a' := ⟨_, rfl⟩
              refine rest_take (k := 23) (d := 4) (v := .bool true) hI rfl rfl (by kernel_rfl) (Nat.lt_of_le_of_lt (by decide) hsz) (by kernel_rfl) hpan (by kernel_rfl) hS (wanted_free rfl) (fun z hz => by have e46 := n46; have f46 := n46.eval; unfold At at e46; simp [go_sem, e46]) (fun a' hI' n4' hk => ?_)
              replace n30 := hk _ _ n30 rfl
              replace n37 := hk _ _ n37 rfl
              replace n43 := hk _ _ n43 rfl
              replace n44 := hk _ _ n44 rfl
              replace n45 := hk _ _ n45 rfl
              replace n46 := hk _ _ n46 rfl
              have n4 := n4'
              replace hI := hI'
              clear hk hI' n4'
              obtain ⟨act9, rfl⟩ : ∃ x, x = a' := ⟨_, rfl⟩
              refine rest_done (by kernel_rfl) ?_
              exact hfin _ _ hI n4 hq
            · have e3 : Pure.err true 2 = 0 := rfl
              rw [e3] at n40
              clear e3
              refine rest_take (k := 17) (d := 41) (v := .bool false) hI rfl rfl (by kernel_rfl) (Nat.lt_of_le_of_lt (by decide) hsz) (by kernel_rfl) hpan (by kernel_rfl) hS (wanted_at rfl rfl (n37)) (fun z hz => by have e40 := n40; have f40 := n40.eval; unfold At at e40; simp [go_sem, e40]) (fun a' hI' n41' hk => ?_)
              replace n30 := hk _ _ n30 rfl
              replace n37 := hk _ _ n37 rfl
              replace n40 := hk _ _ n40 rfl
              have n41 := n41'
              replace hI := hI'
              clear hk hI' n41'
              obtain ⟨act9, rfl⟩ : ∃ x, x = a' := ⟨_, rfl⟩
              refine rest_take (k := 18) (d := 42) (v := .bool false) hI rfl rfl (by kernel_rfl) (Nat.lt_of_le_of_lt (by decide) hsz) (by kernel_rfl) hpan (by kernel_rfl) hS (wanted_free rfl) (fun z hz => by have e37 := n37; have f37 := n37.eval; unfold At at e37; have e41 := n41; have f41 := n41.eval; unfold At at e41; simp [go_sem, e37, e41]) (fun a' hI' n42' hk => ?_)
              replace n30 := hk _ _ n30 rfl
              replace n37 := hk _ _ n37 rfl
              replace n40 := hk _ _ n40 rfl
              replace n41 := hk _ _ n41 rfl
              have n42 := n42'
              replace hI := hI'
              clear hk hI' n42'
              obtain ⟨act9, rfl⟩ : ∃ x, x = a' := ⟨_, rfl⟩
              refine rest_take (k := 19) (d := 43) (v := .bool false) hI rfl rfl (by kernel_rfl) (Nat.lt_of_le_of_lt (by decide) hsz) (by kernel_rfl) hpan (by kernel_rfl) hS (wanted_free rfl) (fun z hz => by have e42 := n42; have f42 := n42.eval; unfold At at e42; simp [go_sem, e42]) (fun a' hI' n43' hk => ?_)
              replace n30 := hk _ _ n30 rfl
              replace n37 := hk _ _ n37 rfl
              replace n40 := hk _ _ n40 rfl
              replace n41 := hk _ _ n41 rfl
              replace n42 := hk _ _ n42 rfl
              have n43 := n43'
              replace hI := hI'
              clear hk hI' n43'
              obtain ⟨act9, rfl⟩ : ∃ x, x = a' := ⟨_, rfl⟩
              clear n40
              clear n41
              clear n42
              refine rest_take (k := 20) (d := 44) (v := .bool ou) hI rfl rfl (by kernel_rfl) (Nat.lt_of_le_of_lt (by decide) hsz) (by kernel_rfl) hpan (by kernel_rfl) hS (wanted_at rfl rfl (n43)) (fun z hz => by have n5 := hI.at m5 (by kernel_rfl); have e5 := n5; have f5 := n5.eval; unfold At at e5; simp [go_sem, e5]) (fun a' hI' n44' hk => ?_)
              replace n30 := hk _ _ n30 rfl
              replace n37 := hk _ _ n37 rfl
              replace n43 := hk _ _ n43 rfl
              have n44 := n44'
              replace hI := hI'
              clear hk hI' n44'
              obtain ⟨act9, rfl⟩ : ∃ x, x = a' := ⟨_, rfl⟩
              refine rest_take (k := 21) (d := 45) (v := .bool (!ou)) hI rfl rfl (by kernel_rfl) (Nat.lt_of_le_of_lt (by decide) hsz) (by kernel_rfl) hpan (by kernel_rfl) hS (wanted_at rfl rfl (n43)) (fun z hz => by have e44 := n44; have f44 := n44.eval; unfold At at e44; simp [go_sem, e44]) (fun a' hI' n45' hk => ?_)
              replace n30 := hk _ _ n30 rfl
              replace n37 := hk _ _ n37 rfl
              replace n43 := hk _ _ n43 rfl
              replace n44 := hk _ _ n44 rfl
              have n45 := n45'
              replace hI := hI'
              clear hk hI' n45'
              obtain ⟨act9, rfl⟩ : ∃ x, x = a' := ⟨_, rfl⟩
              refine rest_take (k := 22) (d := 46) (v := .bool (!ou)) hI rfl rfl (by kernel_rfl) (Nat.lt_of_le_of_lt (by decide) hsz) (by kernel_rfl) hpan (by kernel_rfl) hS (wanted_free rfl) (fun z hz => by have e43 := n43; have f43 := n43.eval; unfold At at e43; have e45 := n45; have f45 := n45.eval; unfold At at e45; simp [go_sem, e43, e45]) (fun a' hI' n46' hk => ?_)
              replace n30 := hk _ _ n30 rfl
              replace n37 := hk _ _ n37 rfl
              replace n43 := hk _ _ n43 rfl
              replace n44 := hk _ _ n44 rfl
              replace n45 := hk _ _ n45 rfl
              have n46 := n46'
              replace hI := hI'
              clear hk hI' n46'
              obtain ⟨act9, rfl⟩ : ∃ x, x = a' := ⟨_, rfl⟩
              refine rest_take (k := 23) (d := 4) (v := .bool (!ou)) hI rfl rfl (by kernel_rfl) (Nat.lt_of_le_of_lt (by decide) hsz) (by kernel_rfl) hpan (by kernel_rfl) hS (wanted_free rfl) (fun z hz => by have e46 := n46; have f46 := n46.eval; unfold At at e46; simp [go_sem, e46]) (fun a' hI' n4' hk => ?_)
              replace n30 := hk _ _ n30 rfl
              replace n37 := hk _ _ n37 rfl
              replace n43 := hk _ _ n43 rfl
              replace n44 := hk _ _ n44 rfl
              replace n45 := hk _ _ n45 rfl
              replace n46 := hk _ _ n46 rfl
              have n4 := n4'
              replace hI := hI'
              clear hk hI' n4'
              obtain ⟨act9, rfl⟩ : ∃ x, x = a' := ⟨_, rfl⟩
              refine rest_done (by kernel_rfl) ?_
              exact hfin _ _ hI n4 hq
          · have hfin' := hfin
            rw [HR2.out] at hfin'
            clear hfin
            have hfin := hfin'
            refine rest_take (k := 12) (d := 36) (v := .bool true) hI rfl rfl (by kernel_rfl) (Nat.lt_of_le_of_lt (by decide) hsz) (by kernel_rfl) hpan (by kernel_rfl) hS (wanted_free rfl) (fun z hz => by have e30 := n30; have f30 := n30.eval; unfold At at e30; have e35 := n35; have f35 := n35.eval; unfold At at e35; simp [go_sem, e30, e35]) (fun a' hI' n36' hk => ?_)
            replace n30 := hk _ _ n30 rfl
            replace n35 := hk _ _ n35 rfl
            have n36 := n36'
            replace hI := hI'
            clear hk hI' n36'
            obtain ⟨act9, rfl⟩ : ∃ x, x = a' := ⟨_, rfl⟩
            refine rest_take (k := 13) (d := 37) (v := .bool true) hI rfl rfl (by kernel_rfl) (Nat.lt_of_le_of_lt (by decide) hsz) (by kernel_rfl) hpan (by kernel_rfl) hS (wanted_free rfl) (fun z hz => by have e36 := n36; have f36 := n36.eval; unfold At at e36; simp [go_sem, e36]) (fun a' hI' n37' hk => ?_)
            replace n30 := hk _ _ n30 rfl
            replace n35 := hk _ _ n35 rfl
            replace n36 := hk _ _ n36 rfl
            have n37 := n37'
            replace hI := hI'
            clear hk hI' n37'
            obtain ⟨act9, rfl⟩ : ∃ x, x = a' := ⟨_, rfl⟩
            clear n35
            clear n36
            refine rest_skip (k := 14) (d := 38) hI rfl rfl (by kernel_rfl) (Nat.lt_of_le_of_lt (by decide) hsz) (by kernel_rfl) hpan (by kernel_rfl) hS (unwanted_at rfl rfl n37 rfl) (fun a' hI' n38' hk => ?_)
            replace n30 := hk _ _ n30 rfl
            replace n37 := hk _ _ n37 rfl
            have n38 := n38'
            replace hI := hI'
            clear hk hI' n38'
            obtain ⟨act9, rfl⟩ : ∃ x, x = a' := ⟨_, rfl⟩
            refine rest_skip (k := 15) (d := 39) hI rfl rfl (by kernel_rfl) (Nat.lt_of_le_of_lt (by decide) hsz) (by kernel_rfl) hpan (by kernel_rfl) hS (unwanted_at rfl rfl n37 rfl) (fun a' hI' n39' hk => ?_)
            replace n30 := hk _ _ n30 rfl
            replace n37 := hk _ _ n37 rfl
            replace n38 := hk _ _ n38 rfl
            have n39 := n39'
            replace hI := hI'
            clear hk hI' n39'
            obtain ⟨act9, rfl⟩ : ∃ x, x = a' := ⟨_, rfl⟩
            refine rest_skip (k := 16) (d := 40) hI rfl rfl (by kernel_rfl) (Nat.lt_of_le_of_lt (by decide) hsz) (by kernel_rfl) hpan (by kernel_rfl) hS (unwanted_at rfl rfl n37 rfl) (fun a' hI' n40' hk => ?_)
            replace n30 := hk _ _ n30 rfl
            replace n37 := hk _ _ n37 rfl
            replace n38 := hk _ _ n38 rfl
            replace n39 := hk _ _ n39 rfl
            have n40 := n40'
            replace hI := hI'
            clear hk hI' n40'
            obtain ⟨act9, rfl⟩ : ∃ x, x = a' := ⟨_, rfl⟩
            refine rest_skip (k := 17) (d := 41) hI rfl rfl (by kernel_rfl) (Nat.lt_of_le_of_lt (by decide) hsz) (by kernel_rfl) hpan (by kernel_rfl) hS (unwanted_at rfl rfl n37 rfl) (fun a' hI' n41' hk => ?_)
            replace n30 := hk _ _ n30 rfl
            replace n37 := hk _ _ n37 rfl
            replace n38 := hk _ _ n38 rfl
            replace n39 := hk _ _ n39 rfl
            replace n40 := hk _ _ n40 rfl
            have n41 := n41'
            replace hI := hI'
            clear hk hI' n41'
            obtain ⟨act9, rfl⟩ : ∃ x, x = a' := ⟨_, rfl⟩
            refine rest_take (k := 18) (d := 42) (v := .bool true) hI rfl rfl (by kernel_rfl) (Nat.lt_of_le_of_lt (by decide) hsz) (by kernel_rfl) hpan (by kernel_rfl) hS (wanted_free rfl) (fun z hz => by have e37 := n37; have f37 := n37.eval; unfold At at e37; simp [go_sem, e37]) (fun a' hI' n42' hk => ?_)
            replace n30 := hk _ _ n30 rfl
            replace n37 := hk _ _ n37 rfl
            replace n38 := hk _ _ n38 rfl
            replace n39 := hk _ _ n39 rfl
            replace n40 := hk _ _ n40 rfl
            replace n41 := hk _ _ n41 rfl
            have n42 := n42'
            replace hI := hI'
            clear hk hI' n42'
            obtain ⟨act9, rfl⟩ : ∃ x, x = a' := ⟨_, rfl⟩
            refine rest_take (k := 19) (d := 43) (v := .bool true) hI rfl rfl (by kernel_rfl) (Nat.lt_of_le_of_lt (by decide) hsz) (by kernel_rfl) hpan (by kernel_rfl) hS (wanted_free rfl) (fun z hz => by have e42 := n42; have f42 := n42.eval; unfold At at e42; simp [go_sem, e42]) (fun a' hI' n43' hk => ?_)
            replace n30 := hk _ _ n30 rfl
            replace n37 := hk _ _ n37 rfl
            replace n38 := hk _ _ n38 rfl
            replace n39 := hk _ _ n39 rfl
            replace n40 := hk _ _ n40 rfl
            replace n41 := hk _ _ n41 rfl
            replace n42 := hk _ _ n42 rfl
            have n43 := n43'
            replace hI := hI'
            clear hk hI' n43'
            obtain ⟨act9, rfl⟩ : ∃ x, x = a' := ⟨_, rfl⟩
            refine rest_skip (k := 20) (d := 44) hI rfl rfl (by kernel_rfl) (Nat.lt_of_le_of_lt (by decide) hsz) (by kernel_rfl) hpan (by kernel_rfl) hS (unwanted_at rfl rfl n43 rfl) (fun a' hI' n44' hk => ?_)
            replace n30 := hk _ _ n30 rfl
            replace n37 := hk _ _ n37 rfl
            replace n38 := hk _ _ n38 rfl
            replace n39 := hk _ _ n39 rfl
            replace n40 := hk _ _ n40 rfl
            replace n41 := hk _ _ n41 rfl
            replace n42 := hk _ _ n42 rfl
            replace n43 := hk _ _ n43 rfl
            have n44 := n44'
            replace hI := hI'
            clear hk hI' n44'
            obtain ⟨act9, rfl⟩ : ∃ x, x = a' := ⟨_, rfl⟩
            refine rest_skip (k := 21) (d := 45) hI rfl rfl (by kernel_rfl) (Nat.lt_of_le_of_lt (by decide) hsz) (by kernel_rfl) hpan (by kernel_rfl) hS (unwanted_at rfl rfl n43 rfl) (fun a' hI' n45' hk => ?_)
            replace n30 := hk _ _ n30 rfl
            replace n37 := hk _ _ n37 rfl
            replace n38 := hk _ _ n38 rfl
            replace n39 := hk _ _ n39 rfl
            replace n40 := hk _ _ n40 rfl
            replace n41 := hk _ _ n41 rfl
            replace n42 := hk _ _ n42 rfl
            replace n43 := hk _ _ n43 rfl
            replace n44 := hk _ _ n44 rfl
            have n45 := n45'
            replace hI := hI'
            clear hk hI' n45'
            obtain ⟨act9, rfl⟩ : ∃ x, x = a' := ⟨_, rfl⟩
            refine rest_take (k := 22) (d := 46) (v := .bool true) hI rfl rfl (by kernel_rfl) (Nat.lt_of_le_of_lt (by decide) hsz) (by kernel_rfl) hpan (by kernel_rfl) hS (wanted_free rfl) (fun z hz => by have e43 := n43; have f43 := n43.eval; unfold At at e43; simp [go_sem, e43]) (fun a' hI' n46' hk => ?_)
            replace n30 := hk _ _ n30 rfl
            replace n37 := hk _ _ n37 rfl
            replace n38 := hk _ _ n38 rfl
            replace n39 := hk _ _ n39 rfl
            replace n40 := hk _ _ n40 rfl
            replace n41 := hk _ _ n41 rfl
            replace n42 := hk _ _ n42 rfl
            replace n43 := hk _ _ n43 rfl
            replace n44 := hk _ _ n44 rfl
            replace n45 := hk _ _ n45 rfl
            have n46 := n46'
            replace hI := hI'
            clear hk hI' n46'
            obtain ⟨act9, rfl⟩ : ∃ x, x = a' := ⟨_, rfl⟩
            refine rest_take (k := 23) (d := 4) (v := .bool true) hI rfl rfl (by kernel_rfl) (Nat.lt_of_le_of_lt (by decide) hsz) (by kernel_rfl) hpan (by kernel_rfl) hS (wanted_free rfl) (fun z hz => by have e46 := n46; have f46 := n46.eval; unfold At at e46; simp [go_sem, e46]) (fun a' hI' n4' hk => ?_)
            replace n30 := hk _ _ n30 rfl
            replace n37 := hk _ _ n37 rfl
            replace n38 := hk _ _ n38 rfl
            replace n39 := hk _ _ n39 rfl
            replace n40 := hk _ _ n40 rfl
            replace n41 := hk _ _ n41 rfl
            replace n42 := hk _ _ n42 rfl
            replace n43 := hk _ _ n43 rfl
            replace n44 := hk _ _ n44 rfl
            replace n45 := hk _ _ n45 rfl
            replace n46 := hk _ _ n46 rfl
            have n4 := n4'
            replace hI := hI'
            clear hk hI' n4'
            obtain ⟨act9, rfl⟩ : ∃ x, x = a' := ⟨_, rfl⟩
            refine rest_done (by kernel_rfl) ?_
            exact hfin _ _ hI n4 hq
      rw [hR]
      refine rest_split [0, 3] (by kernel_rfl) rfl (fun i9 hi9 => ?_)
      have hi9' : i9 = 0 ∨ i9 = 3 := by simpa using hi9
      clear hi9
      rcases hi9' with rfl | rfl
      · refine _root_.id (op_call (k := 0) (d := 24) (R := fun v w' => v = spanV 1 9999 ∧ Below wz.heap.size wz w') hI rfl rfl (by kernel_rfl) (Nat.lt_of_le_of_lt (by decide) hsz) (wanted_free rfl) ((ids_any _).mono fun e w' g => ⟨_, g.1, rfl, g.2⟩) (by simp [go_sem]) ?_)
        intro v w' a' hR' hI' n24' hk
        obtain ⟨rfl, hb⟩ := hR'
        refine ⟨below_thn hS hb, ?_⟩
        replace n26 := hk _ _ n26 rfl
        have n24 := n24'
        replace hI := hI'
        clear hk hI' n24'
        obtain ⟨act9, rfl⟩ : ∃ x, x = a' := ⟨_, rfl⟩
        replace hq := below_thn hq hb
        clear hS hb
        have hS := hq
        obtain ⟨u1, rfl⟩ : ∃ x, x = w' := ⟨_, rfl⟩
        have hcb := first_cell u1 (.int .i64 num) 3 rfl
        have hq1 := below_thn hq (below_new u1 (.cells #[.int .i64 num] 3))
        obtain ⟨u2, hwe⟩ : ∃ x, u1.alloc (.cells #[.int .i64 num] 3) = x := ⟨_, rfl⟩
        rw [hwe] at hcb hq1
        refine rest_only (k := 3) (by kernel_rfl) (op_value (k := 3) (d := 27) (v := .slice (some ⟨u1.heap.size, 0, none⟩) 1 1) hI rfl rfl (by kernel_rfl) (Nat.lt_of_le_of_lt (by decide) hsz) (wanted_free rfl) (by have e26 := n26; have f26 := n26.eval; unfold At at e26; simp [go_sem, e26]; try rfl) (fun a' hI' n27' hk => ⟨by rw [hwe]; exact hq1, ?_⟩))
        replace n26 := hk _ _ n26 rfl
        replace n24 := hk _ _ n24 rfl
        have n27 := n27'
        replace hI := hI'
        clear hk hI' n27'
        obtain ⟨act9, rfl⟩ : ∃ x, x = a' := ⟨_, rfl⟩
        rw [hwe]
        replace hq := hq1
        replace hS := hq1
        clear hwe hq1
        rw [← hR]
        exact tl _ _ _ hI n24 n27 hq hcb
      · have hcb := first_cell wz (.int .i64 num) 3 rfl
        have hq1 := below_thn hq (below_new wz (.cells #[.int .i64 num] 3))
        obtain ⟨u1, hwe⟩ : ∃ x, wz.alloc (.cells #[.int .i64 num] 3) = x := ⟨_, rfl⟩
        rw [hwe] at hcb hq1
        refine _root_.id (op_value (k := 3) (d := 27) (v := .slice (some ⟨wz.heap.size, 0, none⟩) 1 1) hI rfl rfl (by kernel_rfl) (Nat.lt_of_le_of_lt (by decide) hsz) (wanted_free rfl) (by have e26 := n26; have f26 := n26.eval; unfold At at e26; simp [go_sem, e26]; try rfl) (fun a' hI' n27' hk => ⟨by rw [hwe]; exact hq1, ?_⟩))
        replace n26 := hk _ _ n26 rfl
        have n27 := n27'
        replace hI := hI'
        clear hk hI' n27'
        obtain ⟨act9, rfl⟩ : ∃ x, x = a' := ⟨_, rfl⟩
        rw [hwe]
        replace hq := hq1
        replace hS := hq1
        clear hwe hq1
        refine rest_only (k := 0) (by kernel_rfl) (op_call (k := 0) (d := 24) (R := fun v w' => v = spanV 1 9999 ∧ Below u1.heap.size u1 w') hI rfl rfl (by kernel_rfl) (Nat.lt_of_le_of_lt (by decide) hsz) (wanted_free rfl) ((ids_any _).mono fun e w' g => ⟨_, g.1, rfl, g.2⟩) (by simp [go_sem]) ?_)
        intro v w' a' hR' hI' n24' hk
        obtain ⟨rfl, hb⟩ := hR'
        refine ⟨below_thn hS hb, ?_⟩
        replace n26 := hk _ _ n26 rfl
        replace n27 := hk _ _ n27 rfl
        have n24 := n24'
        replace hI := hI'
        clear hk hI' n24'
        obtain ⟨act9, rfl⟩ : ∃ x, x = a' := ⟨_, rfl⟩
        replace hq := below_thn hq hb
        replace hcb := below_cell hb hcb
        refine Rest.same (d' := [3, 0, 2, 1]) ?_ (by kernel_rfl)
        rw [← hR]
        exact tl _ _ _ hI n24 n27 hq hcb
    case rest =>
      obtain ⟨u, rfl⟩ : ∃ x, x = wc := ⟨_, rfl⟩
      obtain ⟨rfl, hb⟩ := hcut
      have HB2 := Lib.hid (below_thn HB1.out hb)
      clear hb
      go_wp2_with fail
      go_ret
      exact ⟨ret_bool (by rw [HOU.out]), HB2.out⟩

end Go.Proofs.YtijfdfplebbaaaaGreat
