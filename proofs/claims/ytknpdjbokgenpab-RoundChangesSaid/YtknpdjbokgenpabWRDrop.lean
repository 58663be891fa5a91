/-
  The contract of the specification's Drop.
-/
import Derived.Test.YtknpdjbokgenpabWDrop
import Derived.Test.YtknpdjbokgenpabWSlice
namespace Go.Proofs.Ytknpdjbokgenpab
open Go.RowKit

set_option maxHeartbeats 8000000 in
set_option maxRecDepth 100000 in
theorem rDrop_any (h : Int) (a : Option Addr) (n c : Nat) (F : Nat → Int) (id : Int) (hn : n ≤ 20) (hc : n ≤ c) (w : World) (hF : NumsAt w a (n * 3) F) :
    Calls Try.prog 9 #[watchV h a n c, .int .i64 id] w (DropOut h n F id w) := by
  obtain ⟨W, hW⟩ : ∃ W, (w.alloc (watchB h a n c)).alloc (watchB 0 none 0 0) = W := ⟨_, rfl⟩
  have HB : Hid (Below w.heap.size w W) := Lib.hid (by rw [← hW]; exact (below_new _ _).alloc (by simp) _)
  have HX : Hid (W.heap[w.heap.size]? = some (watchB h a n c)) := Lib.hid (by rw [← hW]; exact heap_up (heap_top _ _ rfl) _)
  have HY : Hid (W.heap[w.heap.size + 1]? = some (watchB 0 none 0 0)) := Lib.hid (by rw [← hW]; exact heap_top _ _ (by simp))
  have HSZ : Hid (W.heap.size = w.heap.size + 2) := Lib.hid (by rw [← hW]; simp)
  have HP := Lib.hid (hF.below HB.out)
  have HC := Lib.hid hc
  clear hF hc
  obtain ⟨r, hr⟩ : ∃ r, Pure.watch h n F = r := ⟨_, rfl⟩
  have HWT := Lib.hid hr
  clear hr
  have x0 := heap_cell HX.out (j := 0) rfl
  have x1 := heap_cell HX.out (j := 1) rfl
  go_enter Try.func9, Try.ntmps9
  go_upto_region 1 with fail
  try rw [hW]
  clear hW
  go_wp2_with fail
  refine (rWatch_any h a n c F (by omega) _ HP.out).mono ?_
  rintro e W1 ⟨rfl, hb⟩
  rw [HWT.out]
  have HX1 := Lib.hid (heap_lft HX.out hb)
  have HY1 := Lib.hid (heap_lft HY.out hb)
  have HB1 := Lib.hid (below_thn HB.out hb)
  have HP1 := Lib.hid (HP.out.below hb)
  have HS1 : Hid (w.heap.size + 2 ≤ W1.heap.size) := Lib.hid (by have := hb.size; have := HSZ.out; omega)
  clear hb x0 x1
  have x0 := heap_cell HX1.out (j := 0) rfl
  have x1 := heap_cell HX1.out (j := 1) rfl
  have y0 := heap_cell HY1.out (j := 0) rfl
  have y1 := heap_cell HY1.out (j := 1) rfl
  have f0 := heap_frozen HY1.out 0
  have f1 := heap_frozen HY1.out 1
  cases r
  · go_wp2_with fail
    refine bodyPost_ret (v := .tuple #[watchV 0 none 0 0, .int .i64 70]) (by simp [results, Try.results9, go_sem, y0, y1]; try rfl) rfl ⟨0, none, 0, 0, 70, rfl, ?_, .inl ⟨HWT.out, ⟨rfl, rfl, rfl, rfl⟩, rfl⟩⟩
    repeat (first | with_reducible exact HB1.out | with_reducible refine Below.setCell ?_ (by first | (simp; done) | (dsimp only; omega)) _)
  · go_wp2_with fail
    refine (rRick_any h a n c F id (by omega) _ HP1.out).mono ?_
    rintro e W2 ⟨rfl, hb⟩
    have HX2 := Lib.hid (heap_lft HX1.out hb)
    have HY2 := Lib.hid (heap_lft HY1.out hb)
    have HB2 := Lib.hid (below_thn HB1.out hb)
    have HP2 := Lib.hid (HP1.out.below hb)
    have HS2 : Hid (w.heap.size + 2 ≤ W2.heap.size) := Lib.hid (by have := hb.size; have := HS1.out; omega)
    clear hb x0 x1 y0 y1 f0 f1
    rcases Pure.firstAt_cases (fun j => F (j * 3) == id) n with ⟨hr, hall⟩ | ⟨k, hkn, hr, hit, hall⟩
    · rw [hr]
      have HR : Hid (Pure.rickAt n F id = -1) := Lib.hid hr
      clear hr hall
      have y0 := heap_cell HY2.out (j := 0) rfl
      have y1 := heap_cell HY2.out (j := 1) rfl
      have f0 := heap_frozen HY2.out 0
      have f1 := heap_frozen HY2.out 1
      go_wp2_with fail
      refine bodyPost_ret (v := .tuple #[watchV 0 none 0 0, .int .i64 6]) (by simp [results, Try.results9, go_sem, y0, y1]; try rfl) rfl ⟨0, none, 0, 0, 6, rfl, ?_, .inr (.inl ⟨HWT.out, HR.out, ⟨rfl, rfl, rfl, rfl⟩, rfl⟩)⟩
      repeat (first | with_reducible exact HB2.out | with_reducible refine Below.setCell ?_ (by first | (simp; done) | (dsimp only; omega)) _)
    · rw [hr]
      have HR : Hid (Pure.rickAt n F id = k) := Lib.hid hr
      have HKN := Lib.hid hkn
      have hk0 : ¬ ((k : Int) < 0) := by omega
      clear hr hall hit hkn
      go_upto_region 6 with fail
      go_cut [5] from 17 to 31 (fun s wx => s = .int .i64 0 ∧ ∃ aa cc, wx.heap[w.heap.size + 1]? = some (watchB h aa (n - 1) cc) ∧ OwnNums wx W2.heap.size 26 3 aa (n - 1) cc (Pure.delF F k) ∧ Below w.heap.size w wx)
      case first =>
        rename_i J K' hJ hK'
        generalize hA : (Act.mk _ _ : Act) = a0
        have m2 : At a0 2 (.pointer (some ⟨w.heap.size, 0, none⟩)) := by rw [← hA]; rfl
        have m4 : At a0 4 (.pointer (some ⟨w.heap.size + 1, 0, none⟩)) := by rw [← hA]; rfl
        have m6 : At a0 6 (.int .i64 k) := by rw [← hA]; rfl
        have hsz : 31 < a0.tmps.size := by rw [← hA]; exact of_decide_eq_true (by kernel_rfl)
        have hfin : ∀ a' w', Kept (5 :: List.range' 17 15) a0 a' → At a' 5 (.int .i64 0) → (∃ aa cc, w'.heap[w.heap.size + 1]? = some (watchB h aa (n - 1) cc) ∧ OwnNums w' W2.heap.size 26 3 aa (n - 1) cc (Pure.delF F k) ∧ Below w.heap.size w w') → K' a' w' := by
          intro a' w' hI hv5 hL
          refine hK' _ _ (Met.intro (hJ _ _ ⟨a'.tmps.getD 5 undef, a'.tmps.getD 17 undef, a'.tmps.getD 18 undef, a'.tmps.getD 19 undef, a'.tmps.getD 20 undef, a'.tmps.getD 21 undef, a'.tmps.getD 22 undef, a'.tmps.getD 23 undef, a'.tmps.getD 24 undef, a'.tmps.getD 25 undef, a'.tmps.getD 26 undef, a'.tmps.getD 27 undef, a'.tmps.getD 28 undef, a'.tmps.getD 29 undef, a'.tmps.getD 30 undef, a'.tmps.getD 31 undef, ⟨by have g := hv5; unfold At at g; rw [Array.getD_eq_getD_getElem?, g]; rfl, hL⟩, hI.eq.trans ?_⟩))
          rw [← hA]
          kernel_rfl
        have hI : Kept (5 :: List.range' 17 15) a0 a0 := Kept.refl _ _
        clear hA hJ hK' J
        refine with_pan (fun d _ _ _ _ h => by cases d <;> exact h) ?_
        intro hpan
        refine wp_region_rest (fun z => z.heap[w.heap.size]? = some (watchB h a n c)) (by kernel_rfl) ?_
        obtain ⟨wz, hwz⟩ : ∃ x, W2.drew = x := ⟨_, rfl⟩
        change Rest _ _ _ _ _ _ _ (W2.drew)
        rw [hwz]
        have hq : Below W2.heap.size W2 wz := by rw [← hwz]; exact (Below.refl _ _).drew
        clear hwz
        have hS := heap_lft HX2.out hq
        have hkn := HKN.out
        have hcn := HC.out
        have hw1 : IntKind.i64.wrap ((k : Int) + 1) = (k : Int) + 1 := by rw [IntKind.wrap_i64]; omega
        refine rest_take (k := 0) (d := 17) (v := .pointer (some ⟨w.heap.size, 0, none⟩)) hI rfl rfl (by kernel_rfl) (Nat.lt_of_le_of_lt (by decide) hsz) (by kernel_rfl) hpan (by kernel_rfl) hS (wanted_free rfl) (fun z hz => by have n2 := hI.at m2 (by kernel_rfl); have e2 := n2; have f2 := n2.eval; unfold At at e2; simp [go_sem, e2]) (fun a' hI' n17' hk => ?_)
        have n17 := n17'
        replace hI := hI'
        clear hk hI' n17'
        obtain ⟨act9, rfl⟩ : ∃ x, x = a' := ⟨_, rfl⟩
        refine rest_take (k := 1) (d := 18) (v := .int .i64 h) hI rfl rfl (by kernel_rfl) (Nat.lt_of_le_of_lt (by decide) hsz) (by kernel_rfl) hpan (by kernel_rfl) hS (wanted_free rfl) (fun z hz => by have e17 := n17; have f17 := n17.eval; unfold At at e17; have k0 := heap_cell hz (j := 0) rfl; simp [go_sem, e17, k0]) (fun a' hI' n18' hk => ?_)
        replace n17 := hk _ _ n17 rfl
        have n18 := n18'
        replace hI := hI'
        clear hk hI' n18'
        obtain ⟨act9, rfl⟩ : ∃ x, x = a' := ⟨_, rfl⟩
        clear n17
        refine rest_take (k := 3) (d := 20) (v := .pointer (some ⟨w.heap.size, 1, none⟩)) hI rfl rfl (by kernel_rfl) (Nat.lt_of_le_of_lt (by decide) hsz) (by kernel_rfl) hpan (by kernel_rfl) hS (wanted_free rfl) (fun z hz => by have n2 := hI.at m2 (by kernel_rfl); have e2 := n2; have f2 := n2.eval; unfold At at e2; simp [go_sem, e2]) (fun a' hI' n20' hk => ?_)
        replace n18 := hk _ _ n18 rfl
        have n20 := n20'
        replace hI := hI'
        clear hk hI' n20'
        obtain ⟨act9, rfl⟩ : ∃ x, x = a' := ⟨_, rfl⟩
        refine rest_take (k := 4) (d := 21) (v := .slice a n c) hI rfl rfl (by kernel_rfl) (Nat.lt_of_le_of_lt (by decide) hsz) (by kernel_rfl) hpan (by kernel_rfl) hS (wanted_free rfl) (fun z hz => by have e20 := n20; have f20 := n20.eval; unfold At at e20; have k1 := heap_cell hz (j := 1) rfl; simp [go_sem, e20, k1]) (fun a' hI' n21' hk => ?_)
        replace n18 := hk _ _ n18 rfl
        replace n20 := hk _ _ n20 rfl
        have n21 := n21'
        replace hI := hI'
        clear hk hI' n21'
        obtain ⟨act9, rfl⟩ : ∃ x, x = a' := ⟨_, rfl⟩
        clear n20
        refine rest_take (k := 5) (d := 22) (v := .int .i64 k) hI rfl rfl (by kernel_rfl) (Nat.lt_of_le_of_lt (by decide) hsz) (by kernel_rfl) hpan (by kernel_rfl) hS (wanted_free rfl) (fun z hz => by have n6 := hI.at m6 (by kernel_rfl); have e6 := n6; have f6 := n6.eval; unfold At at e6; simp [go_sem, e6]) (fun a' hI' n22' hk => ?_)
        replace n18 := hk _ _ n18 rfl
        replace n21 := hk _ _ n21 rfl
        have n22 := n22'
        replace hI := hI'
        clear hk hI' n22'
        obtain ⟨act9, rfl⟩ : ∃ x, x = a' := ⟨_, rfl⟩
        refine rest_take (k := 6) (d := 23) (v := .slice a k c) hI rfl rfl (by kernel_rfl) (Nat.lt_of_le_of_lt (by decide) hsz) (by kernel_rfl) hpan (by kernel_rfl) hS (wanted_free rfl) (fun z hz => by have e21 := n21; have f21 := n21.eval; unfold At at e21; have e22 := n22; have f22 := n22.eval; unfold At at e22; exact exec_slice_hi 22 26 (.tmp 21) (.tmp 22) 3 rfl Try.underlying22 (fun w => by kernel_rfl) f21 f22 (by omega)) (fun a' hI' n23' hk => ?_)
        replace n18 := hk _ _ n18 rfl
        replace n21 := hk _ _ n21 rfl
        replace n22 := hk _ _ n22 rfl
        have n23 := n23'
        replace hI := hI'
        clear hk hI' n23'
        obtain ⟨act9, rfl⟩ : ∃ x, x = a' := ⟨_, rfl⟩
        clear n21
        clear n22
        refine rest_take (k := 8) (d := 25) (v := .pointer (some ⟨w.heap.size, 1, none⟩)) hI rfl rfl (by kernel_rfl) (Nat.lt_of_le_of_lt (by decide) hsz) (by kernel_rfl) hpan (by kernel_rfl) hS (wanted_free rfl) (fun z hz => by have n2 := hI.at m2 (by kernel_rfl); have e2 := n2; have f2 := n2.eval; unfold At at e2; simp [go_sem, e2]) (fun a' hI' n25' hk => ?_)
        replace n18 := hk _ _ n18 rfl
        replace n23 := hk _ _ n23 rfl
        have n25 := n25'
        replace hI := hI'
        clear hk hI' n25'
        obtain ⟨act9, rfl⟩ : ∃ x, x = a' := ⟨_, rfl⟩
        refine rest_take (k := 9) (d := 26) (v := .slice a n c) hI rfl rfl (by kernel_rfl) (Nat.lt_of_le_of_lt (by decide) hsz) (by kernel_rfl) hpan (by kernel_rfl) hS (wanted_free rfl) (fun z hz => by have e25 := n25; have f25 := n25.eval; unfold At at e25; have k1 := heap_cell hz (j := 1) rfl; simp [go_sem, e25, k1]) (fun a' hI' n26' hk => ?_)
        replace n18 := hk _ _ n18 rfl
        replace n23 := hk _ _ n23 rfl
        replace n25 := hk _ _ n25 rfl
        have n26 := n26'
        replace hI := hI'
        clear hk hI' n26'
        obtain ⟨act9, rfl⟩ : ∃ x, x = a' := ⟨_, rfl⟩
        clear n25
        refine rest_take (k := 10) (d := 27) (v := .int .i64 k) hI rfl rfl (by kernel_rfl) (Nat.lt_of_le_of_lt (by decide) hsz) (by kernel_rfl) hpan (by kernel_rfl) hS (wanted_free rfl) (fun z hz => by have n6 := hI.at m6 (by kernel_rfl); have e6 := n6; have f6 := n6.eval; unfold At at e6; simp [go_sem, e6]) (fun a' hI' n27' hk => ?_)
        replace n18 := hk _ _ n18 rfl
        replace n23 := hk _ _ n23 rfl
        replace n26 := hk _ _ n26 rfl
        have n27 := n27'
        replace hI := hI'
        clear hk hI' n27'
        obtain ⟨act9, rfl⟩ : ∃ x, x = a' := ⟨_, rfl⟩
        refine rest_take (k := 11) (d := 28) (v := .int .i64 ((k + 1 : Nat) : Int)) hI rfl rfl (by kernel_rfl) (Nat.lt_of_le_of_lt (by decide) hsz) (by kernel_rfl) hpan (by kernel_rfl) hS (wanted_free rfl) (fun z hz => by have e27 := n27; have f27 := n27.eval; unfold At at e27; simp [go_sem, e27, hw1]) (fun a' hI' n28' hk => ?_)
        replace n18 := hk _ _ n18 rfl
        replace n23 := hk _ _ n23 rfl
        replace n26 := hk _ _ n26 rfl
        replace n27 := hk _ _ n27 rfl
        have n28 := n28'
        replace hI := hI'
        clear hk hI' n28'
        obtain ⟨act9, rfl⟩ : ∃ x, x = a' := ⟨_, rfl⟩
        clear n27
        refine rest_take (k := 12) (d := 29) (v := .slice (tailA a c (k + 1) 3) (n - (k + 1)) (c - (k + 1))) hI rfl rfl (by kernel_rfl) (Nat.lt_of_le_of_lt (by decide) hsz) (by kernel_rfl) hpan (by kernel_rfl) hS (wanted_free rfl) (fun z hz => by have e26 := n26; have f26 := n26.eval; unfold At at e26; have e28 := n28; have f28 := n28.eval; unfold At at e28; exact exec_slice_lo 22 26 (.tmp 26) (.tmp 28) 3 rfl Try.underlying22 (fun w => by kernel_rfl) f26 f28 (by omega)) (fun a' hI' n29' hk => ?_)
        replace n18 := hk _ _ n18 rfl
        replace n23 := hk _ _ n23 rfl
        replace n26 := hk _ _ n26 rfl
        replace n28 := hk _ _ n28 rfl
        have n29 := n29'
        replace hI := hI'
        clear hk hI' n29'
        obtain ⟨act9, rfl⟩ : ∃ x, x = a' := ⟨_, rfl⟩
        clear n26
        clear n28
        have hz1 := below_new wz (.cells #[] 26)
        have ho0 : OwnNums (wz.alloc (.cells #[] 26)) W2.heap.size 26 3 (some ⟨wz.heap.size, 0, none⟩) 0 0 F := own_empty _ _ _ rfl hq.size _
        have hq1 := below_thn hq hz1
        have hs1 := heap_lft hS hz1
        obtain ⟨u1, hu1⟩ : ∃ x, wz.alloc (.cells #[] 26) = x := ⟨_, rfl⟩
        rw [hu1] at hz1 ho0 hq1 hs1
        refine rest_only (k := 2) (by kernel_rfl) (op_value (k := 2) (d := 19) (v := .slice (some ⟨wz.heap.size, 0, none⟩) 0 0) hI rfl rfl (by kernel_rfl) (Nat.lt_of_le_of_lt (by decide) hsz) (wanted_free rfl) (by simp [go_sem]; try rfl) (fun a' hI' n19' hk => ⟨by rw [hu1]; exact hs1, ?_⟩))
        replace n18 := hk _ _ n18 rfl
        replace n23 := hk _ _ n23 rfl
        replace n29 := hk _ _ n29 rfl
        have n19 := n19'
        replace hI := hI'
        clear hk hI' n19'
        obtain ⟨act9, rfl⟩ : ∃ x, x = a' := ⟨_, rfl⟩
        rw [hu1]
        clear hu1 hz1 hS hq
        obtain ⟨i0, hi, hz0, hz1', hz2⟩ := infoRick
        obtain ⟨a1, c1, u2, hr1, ho1, _, hb1, _⟩ := app_own _ W2.heap.size 26 22 22 3 24 i0 _ Try.underlying22 hi hz0 hz1' hz2 rfl (by decide) (by decide) ho0 a k c F ((HP2.out.below hq1).head (by omega)) (fun e => by subst e; have h9 := HP2.out 0 (by omega); obtain ⟨_, _, h8, _⟩ := h9; cases h8) (by omega) (by omega) (by have := hq1.size; omega)
        have hq2 : Below W2.heap.size W2 u2 := hq1.trans hb1
        have hs2 := heap_lft HX2.out hq2
        clear hs1 hb1
        refine rest_only (k := 7) (by kernel_rfl) (op_value (k := 7) (d := 24) (v := .slice a1 (0 + k) c1) hI rfl rfl (by kernel_rfl) (Nat.lt_of_le_of_lt (by decide) hsz) (wanted_free rfl) (exec_append (.tmp 19) (.tmp 23) 22 22 rfl n19.eval n23.eval (hr1)) (fun a' hI' n24' hk => ⟨hs2, ?_⟩))
        replace n18 := hk _ _ n18 rfl
        replace n23 := hk _ _ n23 rfl
        replace n29 := hk _ _ n29 rfl
        replace n19 := hk _ _ n19 rfl
        have n24 := n24'
        replace hI := hI'
        clear hk hI' n24'
        obtain ⟨act9, rfl⟩ : ∃ x, x = a' := ⟨_, rfl⟩
        clear n19
        clear n23
        have htn : tailA a c (k + 1) 3 = none → n - (k + 1) = 0 := fun e => by
          have e2 := tailA_none e
          subst e2
          obtain ⟨_, _, h8, _⟩ := HP2.out 0 (by omega)
          cases h8
        obtain ⟨a2, c2, u3, hr2, ho2, _, hb2, _⟩ := app_own _ W2.heap.size 26 22 22 3 24 i0 _ Try.underlying22 hi hz0 hz1' hz2 rfl (by decide) (by decide) ho1 (tailA a c (k + 1) 3) (n - (k + 1)) (c - (k + 1)) (fun q => F ((k + 1) * 3 + q)) ((HP2.out.below hq2).tail (by omega) (by omega)) htn (by omega) (by omega) (by have := hq2.size; omega)
        have hq3 : Below W2.heap.size W2 u3 := hq2.trans hb2
        have hs3 := heap_lft HX2.out hq3
        have hy3 := heap_lft HY2.out hq3
        have hnk : 0 + k + (n - (k + 1)) = n - 1 := by omega
        have hoD : OwnNums u3 W2.heap.size 26 3 a2 (n - 1) c2 (Pure.delF F k) := by
          rw [hnk] at ho2
          refine ho2.congr (fun q hq => ?_)
          simp only [joinF, Pure.delF, Nat.zero_add, Nat.zero_mul, Nat.not_lt_zero, if_false, Nat.sub_zero]
          by_cases h1 : q < k * 3
          · rw [if_pos h1, if_pos h1]
          · rw [if_neg h1, if_neg h1]
            congr 1
            omega
        rw [hnk] at hr2
        clear hs2 hb2 ho2 htn
        refine rest_only (k := 13) (by kernel_rfl) (op_value (k := 13) (d := 30) (v := .slice a2 (n - 1) c2) hI rfl rfl (by kernel_rfl) (Nat.lt_of_le_of_lt (by decide) hsz) (wanted_free rfl) (exec_append (.tmp 24) (.tmp 29) 22 22 rfl n24.eval n29.eval (hr2)) (fun a' hI' n30' hk => ⟨hs3, ?_⟩))
        replace n18 := hk _ _ n18 rfl
        replace n29 := hk _ _ n29 rfl
        replace n24 := hk _ _ n24 rfl
        have n30 := n30'
        replace hI := hI'
        clear hk hI' n30'
        obtain ⟨act9, rfl⟩ : ∃ x, x = a' := ⟨_, rfl⟩
        clear n24
        clear n29
        replace hS := hs3
        refine rest_take (k := 14) (d := 31) (v := watchV h a2 (n - 1) c2) hI rfl rfl (by kernel_rfl) (Nat.lt_of_le_of_lt (by decide) hsz) (by kernel_rfl) hpan (by kernel_rfl) hS (wanted_free rfl) (fun z hz => by have e18 := n18; have f18 := n18.eval; unfold At at e18; have e30 := n30; have f30 := n30.eval; unfold At at e30; simp [go_sem, e18, e30]) (fun a' hI' n31' hk => ?_)
        replace n18 := hk _ _ n18 rfl
        replace n30 := hk _ _ n30 rfl
        have n31 := n31'
        replace hI := hI'
        clear hk hI' n31'
        obtain ⟨act9, rfl⟩ : ∃ x, x = a' := ⟨_, rfl⟩
        obtain ⟨Z, hZ⟩ : ∃ Z, (u3.setCell ⟨w.heap.size + 1, 0, none⟩ (.int .i64 h)).setCell ⟨w.heap.size + 1, 1, none⟩ (.slice a2 (n - 1) c2) = Z := ⟨_, rfl⟩
        have hsZ : Z.heap[w.heap.size]? = some (watchB h a n c) := by rw [← hZ]; exact (Below.heap_setCell _ _ _ _ (by simp)).trans ((Below.heap_setCell _ _ _ _ (by simp)).trans hs3)
        have hyZ : Z.heap[w.heap.size + 1]? = some (watchB h a2 (n - 1) c2) := by rw [← hZ]; exact heap_set (heap_set hy3 0 _) 1 _
        have hoZ : OwnNums Z W2.heap.size 26 3 a2 (n - 1) c2 (Pure.delF F k) := by rw [← hZ]; exact (hoD.set (by have := HS2.out; dsimp only; omega) _).set (by have := HS2.out; dsimp only; omega) _
        have hbZ : Below w.heap.size w Z := by rw [← hZ]; exact ((below_thn HB2.out hq3).setCell (by simp) _).setCell (by simp) _
        refine rest_only (k := 15) (by kernel_rfl) (op_store (k := 15) rfl rfl (wanted_free rfl) (by have n4 := hI.at m4 (by kernel_rfl); have e4 := n4; have f4 := n4.eval; unfold At at e4; have e31 := n31; have f31 := n31.eval; unfold At at e31; have k0 := heap_cell hy3 (j := 0) rfl; have k1 := heap_cell hy3 (j := 1) rfl; have f0 := heap_frozen hy3 0; have f1 := heap_frozen hy3 1; simp [go_sem, e4, e31, k0, k1, f0, f1]; try rfl) ⟨by rw [hZ]; exact hsZ, ?_⟩)
        rw [hZ]
        replace hS := hsZ
        refine rest_take (k := 16) (d := 5) (v := .int .i64 0) hI rfl rfl (by kernel_rfl) (Nat.lt_of_le_of_lt (by decide) hsz) (by kernel_rfl) hpan (by kernel_rfl) hS (wanted_free rfl) (fun z hz => by simp [go_sem]) (fun a' hI' n5' hk => ?_)
        replace n18 := hk _ _ n18 rfl
        replace n30 := hk _ _ n30 rfl
        replace n31 := hk _ _ n31 rfl
        have n5 := n5'
        replace hI := hI'
        clear hk hI' n5'
        obtain ⟨act9, rfl⟩ : ∃ x, x = a' := ⟨_, rfl⟩
        refine rest_done (by kernel_rfl) ?_
        exact hfin _ _ hI n5 ⟨a2, c2, hyZ, hoZ, hbZ⟩
      case rest =>
        obtain ⟨U, rfl⟩ : ∃ x, x = wc := ⟨_, rfl⟩
        obtain ⟨rfl, aa, cc, hy, ho, hb⟩ := hcut
        have HYU := Lib.hid hy
        have HOU := Lib.hid ho
        have HBU := Lib.hid hb
        clear hy ho hb
        have y0 := heap_cell HYU.out (j := 0) rfl
        have y1 := heap_cell HYU.out (j := 1) rfl
        go_wp2_with fail
        refine bodyPost_ret (v := .tuple #[watchV h aa (n - 1) cc, .int .i64 0]) (by simp [results, Try.results9, go_sem, y0, y1]; try rfl) rfl ⟨h, aa, n - 1, cc, 0, rfl, HBU.out, .inr (.inr ⟨HWT.out, k, HKN.out, HR.out, rfl, rfl, rfl, OwnNums.base HOU.out (by have := HS2.out; omega)⟩)⟩

end Go.Proofs.Ytknpdjbokgenpab
