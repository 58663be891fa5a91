/-
  The contract of the specification's Put.
-/
import Derived.Test.YtknpdjbokgenpabWLine
namespace Go.Proofs.Ytknpdjbokgenpab
open Go.RowKit

set_option maxHeartbeats 8000000 in
set_option maxRecDepth 100000 in
theorem rPut_any (h : Int) (a : Option Addr) (n c : Nat) (F : Nat → Int) (i e d : Int) (hn : n ≤ 20) (hc : n ≤ c) (hnil : a = none → n = 0) (w : World) (hF : NumsAt w a (n * 3) F) :
    Calls Try.prog 7 #[watchV h a n c, rickV i e d] w (PutOut h n F i e d w) := by
  obtain ⟨W, hW⟩ : ∃ W, ((w.alloc (watchB h a n c)).alloc (rickB i e d)).alloc (watchB 0 none 0 0) = W := ⟨_, rfl⟩
  have HB : Hid (Below w.heap.size w W) := Lib.hid (by rw [← hW]; exact ((below_new _ _).alloc (by simp) _).alloc (by simp; omega) _)
  have HX : Hid (W.heap[w.heap.size]? = some (watchB h a n c)) := Lib.hid (by rw [← hW]; exact heap_up (heap_up (heap_top _ _ rfl) _) _)
  have HI : Hid (W.heap[w.heap.size + 1]? = some (rickB i e d)) := Lib.hid (by rw [← hW]; exact heap_up (heap_top _ _ (by simp)) _)
  have HY : Hid (W.heap[w.heap.size + 1 + 1]? = some (watchB 0 none 0 0)) := Lib.hid (by rw [← hW]; exact heap_top _ _ (by simp))
  have HSZ : Hid (W.heap.size = w.heap.size + 3) := Lib.hid (by rw [← hW]; simp)
  have HP := Lib.hid (hF.below HB.out)
  have HC := Lib.hid (And.intro hc hnil)
  clear hF hc hnil
  obtain ⟨r, hr⟩ : ∃ r, Pure.watch h n F = r := ⟨_, rfl⟩
  have HWT := Lib.hid hr
  clear hr
  have x0 := heap_cell HX.out (j := 0) rfl
  have x1 := heap_cell HX.out (j := 1) rfl
  go_enter Try.func7, Try.ntmps7
  go_upto_region 1 with fail
  try rw [hW]
  clear hW
  go_wp2_with fail
  refine (rWatch_any h a n c F (by omega) _ HP.out).mono ?_
  rintro e2 W1 ⟨rfl, hb⟩
  rw [HWT.out]
  have HX1 := Lib.hid (heap_lft HX.out hb)
  have HI1 := Lib.hid (heap_lft HI.out hb)
  have HY1 := Lib.hid (heap_lft HY.out hb)
  have HB1 := Lib.hid (below_thn HB.out hb)
  have HP1 := Lib.hid (HP.out.below hb)
  have HS1 : Hid (w.heap.size + 3 ≤ W1.heap.size) := Lib.hid (by have := hb.size; have := HSZ.out; omega)
  clear hb x0 x1
  have x0 := heap_cell HX1.out (j := 0) rfl
  have x1 := heap_cell HX1.out (j := 1) rfl
  have y0 := heap_cell HY1.out (j := 0) rfl
  have y1 := heap_cell HY1.out (j := 1) rfl
  have f0 := heap_frozen HY1.out 0
  have f1 := heap_frozen HY1.out 1
  cases r
  · go_wp2_with fail
    refine bodyPost_ret (v := .tuple #[watchV 0 none 0 0, .int .i64 70]) (by simp [results, Try.results7, go_sem, y0, y1]; try rfl) rfl ⟨0, none, 0, 0, 70, rfl, ?_, .inl ⟨HWT.out, ⟨rfl, rfl, rfl, rfl⟩, rfl⟩⟩
    repeat (first | with_reducible exact HB1.out | with_reducible refine Below.setCell ?_ (by first | (simp; done) | (dsimp only; omega)) _)
  · by_cases h4 : n = 4
    · have H4 := Lib.hid h4
      have h4' : ((n : Int) == 4) = true := by subst h4; rfl
      clear h4
      go_wp2_with fail
      refine bodyPost_ret (v := .tuple #[watchV 0 none 0 0, .int .i64 9]) (by simp [results, Try.results7, go_sem, y0, y1]; try rfl) rfl ⟨0, none, 0, 0, 9, rfl, ?_, .inr (.inl ⟨HWT.out, (by have := H4.out; omega), ⟨rfl, rfl, rfl, rfl⟩, rfl⟩)⟩
      repeat (first | with_reducible exact HB1.out | with_reducible refine Below.setCell ?_ (by first | (simp; done) | (dsimp only; omega)) _)
    · have hn4 : n < 4 := by have := (Pure.watch_iff.1 HWT.out).2.1; omega
      have H4 := Lib.hid hn4
      have h4' : ((n : Int) == 4) = false := beq_eq_false_iff_ne.2 (by omega)
      clear h4 hn4 y0 y1 f0 f1
      go_wp2_with fail
      go_loopw [6] (fun s wr => ∃ k : Nat, k ≤ n ∧ s = .int .i64 k ∧ (∀ m, m < k → F (m * 3) < i) ∧ Below W1.heap.size W1 wr) (fun s _ => n - (intOf s).toNat)
      case atStart => exact ⟨0, Nat.zero_le _, rfl, fun m hm => by omega, Below.refl _ _⟩
      case round =>
        obtain ⟨k, hk, rfl, hlo, hb⟩ := hrel
        have HLO := Lib.hid hlo
        have HBk := Lib.hid hb
        have HXk := Lib.hid (heap_lft HX1.out hb)
        have HIk := Lib.hid (heap_lft HI1.out hb)
        clear hlo hb
        have z0 := heap_cell HXk.out (j := 0) rfl
        have z1 := heap_cell HXk.out (j := 1) rfl
        have i0 := heap_cell HIk.out (j := 0) rfl
        go_upto_region 6 with fail
        go_cut [32] from 17 to 34 (fun s wx => s = .bool (decide (k < n ∧ F (k * 3) < i)) ∧ Below W1.heap.size W1 wx)
        case first =>
          by_cases hk1 : k < n
          · obtain ⟨b, off, rfl, _⟩ := HP1.out (k * 3) (by omega)
            have n1 : (k : Int) < n := by omega
            have n2 : decide ((k : Int) < n) = true := decide_eq_true n1
            have p0 := (HP1.out.below HBk.out).at (show k * 3 < n * 3 by omega)
            have xx0 := among_below p0
            have xx1 := among_below z0
            have xx2 := among_below z1
            have xx3 := among_below i0
            have HSt : Hid (Below wr.heap.size wr wr.drew) := Lib.hid (Below.refl _ _).drew
            have hne : Nonempty (Among (Below wr.heap.size wr)) := ⟨⟨_, HSt.out⟩⟩
            refine wp_region_class (Below wr.heap.size wr) (by kernel_rfl) (by kernel_rfl) HSt.out ?_
            repeat (go_big_quiet_step (fail))
            refine wpQuiet_nil ?_
            intro w8 hx
            have HB8 := Lib.hid (below_thn HBk.out (among_out hx))
            clear hx hne xx0 xx1 xx2 xx3 p0 z0 z1 i0
            go_wp2_with fail
            go_meet
            exact ⟨by simp [hk1], HB8.out⟩
          · have n1 : ¬ (k : Int) < n := by omega
            have n2 : decide ((k : Int) < n) = false := decide_eq_false n1
            have xx1 := among_below z0
            have xx2 := among_below z1
            have xx3 := among_below i0
            have HSt : Hid (Below wr.heap.size wr wr.drew) := Lib.hid (Below.refl _ _).drew
            have hne : Nonempty (Among (Below wr.heap.size wr)) := ⟨⟨_, HSt.out⟩⟩
            refine wp_region_class (Below wr.heap.size wr) (by kernel_rfl) (by kernel_rfl) HSt.out ?_
            repeat (go_big_quiet_step (fail))
            refine wpQuiet_nil ?_
            intro w8 hx
            have HB8 := Lib.hid (below_thn HBk.out (among_out hx))
            clear hx hne xx1 xx2 xx3 z0 z1 i0
            go_wp2_with fail
            go_meet
            exact ⟨by simp [hk1], HB8.out⟩
        case rest =>
          obtain ⟨W2, rfl⟩ : ∃ x, x = wc := ⟨_, rfl⟩
          obtain ⟨rfl, hb⟩ := hcut
          have HB2k := Lib.hid hb
          clear hb z0 z1 i0
          obtain ⟨g, hg⟩ : ∃ g, decide (k < n ∧ F (k * 3) < i) = g := ⟨_, rfl⟩
          rw [hg]
          have HG := Lib.hid hg
          clear hg
          cases g
          · have HX2 := Lib.hid (heap_lft HX1.out HB2k.out)
            have HI2 := Lib.hid (heap_lft HI1.out HB2k.out)
            have HY2 := Lib.hid (heap_lft HY1.out HB2k.out)
            have HB2 := Lib.hid (below_thn HB1.out HB2k.out)
            have HP2 := Lib.hid (HP1.out.below HB2k.out)
            have HS2 : Hid (w.heap.size + 3 ≤ W2.heap.size) := Lib.hid (by have := HB2k.out.size; have := HS1.out; omega)
            have HK : Hid (IsPlace F i n k) := Lib.hid ⟨hk, HLO.out, fun m hm hmn => by
              have h1 := of_decide_eq_false HG.out
              have h2 : i ≤ F (k * 3) := by
                have h3 : ¬ F (k * 3) < i := fun h4 => h1 ⟨by omega, h4⟩
                omega
              by_cases e : m = k
              · subst e; exact h2
              · have := Pure.watch_sort HWT.out m k (by omega) hmn; omega⟩
            go_upto_region 8 with fail
            go_cut [7] from 35 to 51 (fun s wx => ∃ B aa cc, s = .pointer (some ⟨B, 0, none⟩) ∧ W2.heap.size ≤ B ∧ wx.heap[B]? = some (watchB h aa (n + 1) cc) ∧ OwnNums wx W2.heap.size 26 3 aa (n + 1) cc (Pure.insF F k (rowX i e d)) ∧ Below W2.heap.size W2 wx)
            case first =>
              rename_i J K' hJ hK'
              generalize hA : (Act.mk _ _ : Act) = a0
              have m2 : At a0 2 (.pointer (some ⟨w.heap.size, 0, none⟩)) := by rw [← hA]; rfl
              have m3 : At a0 3 (.pointer (some ⟨w.heap.size + 1, 0, none⟩)) := by rw [← hA]; rfl
              have m6 : At a0 6 (.int .i64 k) := by rw [← hA]; rfl
              have hsz : 51 < a0.tmps.size := by rw [← hA]; exact of_decide_eq_true (by kernel_rfl)
              have hfin : ∀ a' w' s7, Kept (7 :: List.range' 35 17) a0 a' → At a' 7 (s7) → (∃ B aa cc, s7 = .pointer (some ⟨B, 0, none⟩) ∧ W2.heap.size ≤ B ∧ w'.heap[B]? = some (watchB h aa (n + 1) cc) ∧ OwnNums w' W2.heap.size 26 3 aa (n + 1) cc (Pure.insF F k (rowX i e d)) ∧ Below W2.heap.size W2 w') → K' a' w' := by
                intro a' w' s7 hI hv7 hL
                refine hK' _ _ (Met.intro (hJ _ _ ⟨a'.tmps.getD 7 undef, a'.tmps.getD 35 undef, a'.tmps.getD 36 undef, a'.tmps.getD 37 undef, a'.tmps.getD 38 undef, a'.tmps.getD 39 undef, a'.tmps.getD 40 undef, a'.tmps.getD 41 undef, a'.tmps.getD 42 undef, a'.tmps.getD 43 undef, a'.tmps.getD 44 undef, a'.tmps.getD 45 undef, a'.tmps.getD 46 undef, a'.tmps.getD 47 undef, a'.tmps.getD 48 undef, a'.tmps.getD 49 undef, a'.tmps.getD 50 undef, a'.tmps.getD 51 undef, by have g := hv7; unfold At at g; rw [Array.getD_eq_getD_getElem?, g]; exact hL, hI.eq.trans ?_⟩))
                rw [← hA]
                kernel_rfl
              have hI : Kept (7 :: List.range' 35 17) a0 a0 := Kept.refl _ _
              clear hA hJ hK' J
              refine with_pan (fun d _ _ _ _ h => by cases d <;> exact h) ?_
              intro hpan
              refine wp_region_rest (fun z => Below W2.heap.size W2 z) (by kernel_rfl) ?_
              obtain ⟨wz, hwz⟩ : ∃ x, W2.drew = x := ⟨_, rfl⟩
              change Rest _ _ _ _ _ _ _ (W2.drew)
              rw [hwz]
              have hq : Below W2.heap.size W2 wz := by rw [← hwz]; exact (Below.refl _ _).drew
              clear hwz
              have hS := hq
              have hkn := HK.out.le
              have hcn := HC.out.1
              refine rest_take (k := 0) (d := 35) (v := .pointer (some ⟨w.heap.size, 0, none⟩)) hI rfl rfl (by kernel_rfl) (Nat.lt_of_le_of_lt (by decide) hsz) (by kernel_rfl) hpan (by kernel_rfl) hS (wanted_free rfl) (fun z hz => by have n2 := hI.at m2 (by kernel_rfl); have e2 := n2; have f2 := n2.eval; unfold At at e2; simp [go_sem, e2]) (fun a' hI' n35' hk => ?_)
              have n35 := n35'
              replace hI := hI'
              clear hk hI' n35'
              obtain ⟨act9, rfl⟩ : ∃ x, x = a' := ⟨_, rfl⟩
              refine rest_take (k := 1) (d := 36) (v := .int .i64 h) hI rfl rfl (by kernel_rfl) (Nat.lt_of_le_of_lt (by decide) hsz) (by kernel_rfl) hpan (by kernel_rfl) hS (wanted_free rfl) (fun z hz => by have e35 := n35; have f35 := n35.eval; unfold At at e35; have k0 := heap_cell (heap_lft HX2.out hz) (j := 0) rfl; simp [go_sem, e35, k0]) (fun a' hI' n36' hk => ?_)
              replace n35 := hk _ _ n35 rfl
              have n36 := n36'
              replace hI := hI'
              clear hk hI' n36'
              obtain ⟨act9, rfl⟩ : ∃ x, x = a' := ⟨_, rfl⟩
              clear n35
              refine rest_take (k := 3) (d := 38) (v := .pointer (some ⟨w.heap.size, 1, none⟩)) hI rfl rfl (by kernel_rfl) (Nat.lt_of_le_of_lt (by decide) hsz) (by kernel_rfl) hpan (by kernel_rfl) hS (wanted_free rfl) (fun z hz => by have n2 := hI.at m2 (by kernel_rfl); have e2 := n2; have f2 := n2.eval; unfold At at e2; simp [go_sem, e2]) (fun a' hI' n38' hk => ?_)
              replace n36 := hk _ _ n36 rfl
              have n38 := n38'
              replace hI := hI'
              clear hk hI' n38'
              obtain ⟨act9, rfl⟩ : ∃ x, x = a' := ⟨_, rfl⟩
              refine rest_take (k := 4) (d := 39) (v := .slice a n c) hI rfl rfl (by kernel_rfl) (Nat.lt_of_le_of_lt (by decide) hsz) (by kernel_rfl) hpan (by kernel_rfl) hS (wanted_free rfl) (fun z hz => by have e38 := n38; have f38 := n38.eval; unfold At at e38; have k1 := heap_cell (heap_lft HX2.out hz) (j := 1) rfl; simp [go_sem, e38, k1]) (fun a' hI' n39' hk => ?_)
              replace n36 := hk _ _ n36 rfl
              replace n38 := hk _ _ n38 rfl
              have n39 := n39'
              replace hI := hI'
              clear hk hI' n39'
              obtain ⟨act9, rfl⟩ : ∃ x, x = a' := ⟨_, rfl⟩
              clear n38
              refine rest_take (k := 5) (d := 40) (v := .int .i64 k) hI rfl rfl (by kernel_rfl) (Nat.lt_of_le_of_lt (by decide) hsz) (by kernel_rfl) hpan (by kernel_rfl) hS (wanted_free rfl) (fun z hz => by have n6 := hI.at m6 (by kernel_rfl); have e6 := n6; have f6 := n6.eval; unfold At at e6; simp [go_sem, e6]) (fun a' hI' n40' hk => ?_)
              replace n36 := hk _ _ n36 rfl
              replace n39 := hk _ _ n39 rfl
              have n40 := n40'
              replace hI := hI'
              clear hk hI' n40'
              obtain ⟨act9, rfl⟩ : ∃ x, x = a' := ⟨_, rfl⟩
              refine rest_take (k := 6) (d := 41) (v := .slice a k c) hI rfl rfl (by kernel_rfl) (Nat.lt_of_le_of_lt (by decide) hsz) (by kernel_rfl) hpan (by kernel_rfl) hS (wanted_free rfl) (fun z hz => by have e39 := n39; have f39 := n39.eval; unfold At at e39; have e40 := n40; have f40 := n40.eval; unfold At at e40; exact exec_slice_hi 22 26 (.tmp 39) (.tmp 40) 3 rfl Try.underlying22 (fun w => by kernel_rfl) f39 f40 (by omega)) (fun a' hI' n41' hk => ?_)
              replace n36 := hk _ _ n36 rfl
              replace n39 := hk _ _ n39 rfl
              replace n40 := hk _ _ n40 rfl
              have n41 := n41'
              replace hI := hI'
              clear hk hI' n41'
              obtain ⟨act9, rfl⟩ : ∃ x, x = a' := ⟨_, rfl⟩
              clear n39
              clear n40
              refine rest_take (k := 8) (d := 43) (v := rickV i e d) hI rfl rfl (by kernel_rfl) (Nat.lt_of_le_of_lt (by decide) hsz) (by kernel_rfl) hpan (by kernel_rfl) hS (wanted_free rfl) (fun z hz => by have n3 := hI.at m3 (by kernel_rfl); have e3 := n3; have f3 := n3.eval; unfold At at e3; have k0 := heap_cell (heap_lft HI2.out hz) (j := 0) rfl; have k1 := heap_cell (heap_lft HI2.out hz) (j := 1) rfl; have k2 := heap_cell (heap_lft HI2.out hz) (j := 2) rfl; simp [go_sem, e3, k0, k1, k2]) (fun a' hI' n43' hk => ?_)
              replace n36 := hk _ _ n36 rfl
              replace n41 := hk _ _ n41 rfl
              have n43 := n43'
              replace hI := hI'
              clear hk hI' n43'
              obtain ⟨act9, rfl⟩ : ∃ x, x = a' := ⟨_, rfl⟩
              refine rest_take (k := 11) (d := 46) (v := .pointer (some ⟨w.heap.size, 1, none⟩)) hI rfl rfl (by kernel_rfl) (Nat.lt_of_le_of_lt (by decide) hsz) (by kernel_rfl) hpan (by kernel_rfl) hS (wanted_free rfl) (fun z hz => by have n2 := hI.at m2 (by kernel_rfl); have e2 := n2; have f2 := n2.eval; unfold At at e2; simp [go_sem, e2]) (fun a' hI' n46' hk => ?_)
              replace n36 := hk _ _ n36 rfl
              replace n41 := hk _ _ n41 rfl
              replace n43 := hk _ _ n43 rfl
              have n46 := n46'
              replace hI := hI'
              clear hk hI' n46'
              obtain ⟨act9, rfl⟩ : ∃ x, x = a' := ⟨_, rfl⟩
              refine rest_take (k := 12) (d := 47) (v := .slice a n c) hI rfl rfl (by kernel_rfl) (Nat.lt_of_le_of_lt (by decide) hsz) (by kernel_rfl) hpan (by kernel_rfl) hS (wanted_free rfl) (fun z hz => by have e46 := n46; have f46 := n46.eval; unfold At at e46; have k1 := heap_cell (heap_lft HX2.out hz) (j := 1) rfl; simp [go_sem, e46, k1]) (fun a' hI' n47' hk => ?_)
              replace n36 := hk _ _ n36 rfl
              replace n41 := hk _ _ n41 rfl
              replace n43 := hk _ _ n43 rfl
              replace n46 := hk _ _ n46 rfl
              have n47 := n47'
              replace hI := hI'
              clear hk hI' n47'
              obtain ⟨act9, rfl⟩ : ∃ x, x = a' := ⟨_, rfl⟩
              clear n46
              refine rest_take (k := 13) (d := 48) (v := .int .i64 k) hI rfl rfl (by kernel_rfl) (Nat.lt_of_le_of_lt (by decide) hsz) (by kernel_rfl) hpan (by kernel_rfl) hS (wanted_free rfl) (fun z hz => by have n6 := hI.at m6 (by kernel_rfl); have e6 := n6; have f6 := n6.eval; unfold At at e6; simp [go_sem, e6]) (fun a' hI' n48' hk => ?_)
              replace n36 := hk _ _ n36 rfl
              replace n41 := hk _ _ n41 rfl
              replace n43 := hk _ _ n43 rfl
              replace n47 := hk _ _ n47 rfl
              have n48 := n48'
              replace hI := hI'
              clear hk hI' n48'
              obtain ⟨act9, rfl⟩ : ∃ x, x = a' := ⟨_, rfl⟩
              refine rest_take (k := 14) (d := 49) (v := .slice (tailA a c k 3) (n - k) (c - k)) hI rfl rfl (by kernel_rfl) (Nat.lt_of_le_of_lt (by decide) hsz) (by kernel_rfl) hpan (by kernel_rfl) hS (wanted_free rfl) (fun z hz => by have e47 := n47; have f47 := n47.eval; unfold At at e47; have e48 := n48; have f48 := n48.eval; unfold At at e48; exact exec_slice_lo 22 26 (.tmp 47) (.tmp 48) 3 rfl Try.underlying22 (fun w => by kernel_rfl) f47 f48 (by omega)) (fun a' hI' n49' hk => ?_)
              replace n36 := hk _ _ n36 rfl
              replace n41 := hk _ _ n41 rfl
              replace n43 := hk _ _ n43 rfl
              replace n47 := hk _ _ n47 rfl
              replace n48 := hk _ _ n48 rfl
              have n49 := n49'
              replace hI := hI'
              clear hk hI' n49'
              obtain ⟨act9, rfl⟩ : ∃ x, x = a' := ⟨_, rfl⟩
              clear n47
              clear n48
              obtain ⟨i0, hi, hz0, hz1', hz2⟩ := infoRick
              refine rest_name (fun R hR => ?_)
              have hnk : 0 + k + 1 + (n - k) = n + 1 := by omega
              have fin : ∀ ac wo s cp B, Kept (7 :: List.range' 35 17) a0 ac → At ac 51 (watchV h s (n + 1) cp) → At ac 7 (.pointer (some ⟨B, 0, none⟩)) → W2.heap.size ≤ B → wo.heap[B]? = some (watchB 0 none 0 0) → (∀ x, s = some x → x.block ≠ B) → OwnNums wo W2.heap.size 26 3 s (n + 1) cp (Pure.insF F k (rowX i e d)) → Below W2.heap.size W2 wo → R 1 [16, 14, 13, 12, 11, 8, 6, 5, 4, 3, 1, 0, 2, 7, 10, 15, 9, 17] ac wo := by
                intro ac wo s cp B hI n51 n7 hB hbx hne ho hq
                rw [hR]
                obtain ⟨Z, hZ⟩ : ∃ Z, (wo.setCell ⟨B, 0, none⟩ (.int .i64 h)).setCell ⟨B, 1, none⟩ (.slice s (n + 1) cp) = Z := ⟨_, rfl⟩
                have hxZ : Z.heap[B]? = some (watchB h s (n + 1) cp) := by rw [← hZ]; exact heap_set (heap_set hbx 0 _) 1 _
                have hoZ : OwnNums Z W2.heap.size 26 3 s (n + 1) cp (Pure.insF F k (rowX i e d)) := ho.kept (fun x hx => by rw [← hZ]; exact (Below.heap_setCell _ _ _ _ (hne x hx)).trans (Below.heap_setCell _ _ _ _ (hne x hx)))
                have hbZ : Below W2.heap.size W2 Z := by rw [← hZ]; exact (hq.setCell hB _).setCell hB _
                refine rest_only (k := 18) (by kernel_rfl) (op_store (k := 18) rfl rfl (wanted_free rfl) (by have e7 := n7; have f7 := n7.eval; unfold At at e7; have e51 := n51; have f51 := n51.eval; unfold At at e51; have k0 := heap_cell hbx (j := 0) rfl; have k1 := heap_cell hbx (j := 1) rfl; have f0 := heap_frozen hbx 0; have f1 := heap_frozen hbx 1; simp [go_sem, e7, e51, k0, k1, f0, f1]; try rfl) ⟨by rw [hZ]; exact hbZ, ?_⟩)
                refine rest_done (by kernel_rfl) ?_
                rw [hZ]
                exact hfin _ _ _ hI n7 ⟨B, s, cp, rfl, hB, hxZ, hoZ, hbZ⟩
              have s4TT : ∀ ac wo, LineSt (7 :: List.range' 35 17) a0 W2 26 3 [(36, .int .i64 h), (41, .slice a k c), (43, rickV i e d), (49, .slice (tailA a c k 3) (n - k) (c - k))] 44 (rickB i e d) 7 (watchB 0 none 0 0) 50 (0 + k + 1 + (n - k)) (joinF (joinF (joinF F (0 * 3) F) ((0 + k) * 3) (rowX i e d)) ((0 + k + 1) * 3) (fun q => F (k * 3 + q))) true true true ac wo → R 2 [14, 13, 12, 11, 8, 6, 5, 4, 3, 1, 0, 2, 7, 10, 15, 9, 17] ac wo := by
                intro ac wo hst
                rw [hR]
                obtain ⟨s, cp, h1, h2, h3⟩ := hst.row
                have ho : OwnNums wo W2.heap.size 26 3 s (n + 1) cp (Pure.insF F k (rowX i e d)) := by
                  have g := (h1 rfl).2
                  rw [hnk] at g
                  refine g.congr (fun q hq => ?_)
                  simp only [joinF, Pure.insF, Nat.zero_add, Nat.zero_mul, Nat.not_lt_zero, if_false, Nat.sub_zero]
                  by_cases g1 : q < k * 3
                  · rw [if_pos (by omega), if_pos g1, if_pos g1]
                  · by_cases g2 : q < k * 3 + 3
                    · rw [if_pos (by omega), if_neg g1, if_neg g1, if_pos g2]
                    · rw [if_neg (by omega), if_neg g1, if_neg g2]
                      congr 1
                      omega
                have n50 := (h1 rfl).1
                rw [hnk] at n50
                have n36 := (hst.fix (36, .int .i64 h) (by simp))
                have hI := hst.kept
                have hS := hst.below
                obtain ⟨B, n7, b2, b3, b4⟩ := h3 rfl
                refine rest_take (k := 16) (d := 51) (v := watchV h s (n + 1) cp) hI rfl rfl (by kernel_rfl) (Nat.lt_of_le_of_lt (by decide) hsz) (by kernel_rfl) hpan (by kernel_rfl) hS (wanted_free rfl) (fun z hz => by have e36 := n36; have f36 := n36.eval; unfold At at e36; have e50 := n50; have f50 := n50.eval; unfold At at e50; simp [go_sem, e36, e50]) (fun a' hI' n51' hk => ?_)
                replace n36 := hk _ _ n36 rfl
                replace n50 := hk _ _ n50 rfl
                replace n7 := hk _ _ n7 rfl
                have n51 := n51'
                replace hI := hI'
                clear hk hI' n51'
                obtain ⟨act9, rfl⟩ : ∃ x, x = a' := ⟨_, rfl⟩
                rw [← hR]
                exact fin _ _ s cp B hI n51 n7 b2 b4 (b3 rfl) ho hS
              have s4TF : ∀ ac wo, LineSt (7 :: List.range' 35 17) a0 W2 26 3 [(36, .int .i64 h), (41, .slice a k c), (43, rickV i e d), (49, .slice (tailA a c k 3) (n - k) (c - k))] 44 (rickB i e d) 7 (watchB 0 none 0 0) 50 (0 + k + 1 + (n - k)) (joinF (joinF (joinF F (0 * 3) F) ((0 + k) * 3) (rowX i e d)) ((0 + k + 1) * 3) (fun q => F (k * 3 + q))) true true false ac wo → R 3 [14, 13, 12, 11, 8, 6, 5, 4, 3, 1, 0, 2, 7, 10, 15, 9] ac wo := by
                intro ac wo hst
                rw [hR]
                obtain ⟨s, cp, h1, h2, h3⟩ := hst.row
                have ho : OwnNums wo W2.heap.size 26 3 s (n + 1) cp (Pure.insF F k (rowX i e d)) := by
                  have g := (h1 rfl).2
                  rw [hnk] at g
                  refine g.congr (fun q hq => ?_)
                  simp only [joinF, Pure.insF, Nat.zero_add, Nat.zero_mul, Nat.not_lt_zero, if_false, Nat.sub_zero]
                  by_cases g1 : q < k * 3
                  · rw [if_pos (by omega), if_pos g1, if_pos g1]
                  · by_cases g2 : q < k * 3 + 3
                    · rw [if_pos (by omega), if_neg g1, if_neg g1, if_pos g2]
                    · rw [if_neg (by omega), if_neg g1, if_neg g2]
                      congr 1
                      omega
                have n50 := (h1 rfl).1
                rw [hnk] at n50
                have n36 := (hst.fix (36, .int .i64 h) (by simp))
                have hI := hst.kept
                have hS := hst.below
                refine rest_take (k := 16) (d := 51) (v := watchV h s (n + 1) cp) hI rfl rfl (by kernel_rfl) (Nat.lt_of_le_of_lt (by decide) hsz) (by kernel_rfl) hpan (by kernel_rfl) hS (wanted_free rfl) (fun z hz => by have e36 := n36; have f36 := n36.eval; unfold At at e36; have e50 := n50; have f50 := n50.eval; unfold At at e50; simp [go_sem, e36, e50]) (fun a' hI' n51' hk => ?_)
                replace n36 := hk _ _ n36 rfl
                replace n50 := hk _ _ n50 rfl
                have n51 := n51'
                replace hI := hI'
                clear hk hI' n51'
                obtain ⟨act9, rfl⟩ : ∃ x, x = a' := ⟨_, rfl⟩
                refine rest_only (k := 17) (by kernel_rfl) (op_value (k := 17) (d := 7) (v := .pointer (some ⟨wo.heap.size, 0, none⟩)) hI rfl rfl (by kernel_rfl) (Nat.lt_of_le_of_lt (by decide) hsz) (wanted_free rfl) (by simp [go_sem]; try rfl) (fun a' hI' n7' hk => ⟨below_thn hS (below_new _ _), ?_⟩))
                replace n36 := hk _ _ n36 rfl
                replace n50 := hk _ _ n50 rfl
                replace n51 := hk _ _ n51 rfl
                have n7 := n7'
                replace hI := hI'
                clear hk hI' n7'
                obtain ⟨act9, rfl⟩ : ∃ x, x = a' := ⟨_, rfl⟩
                refine Rest.same (d' := [16, 14, 13, 12, 11, 8, 6, 5, 4, 3, 1, 0, 2, 7, 10, 15, 9, 17]) ?_ (by kernel_rfl)
                rw [← hR]
                exact fin _ _ s cp wo.heap.size hI n51 n7 hS.size (heap_top _ _ rfl) (fun x hx => by have := (ho.lt x hx).2; omega) (ho.below (below_new _ _)) (below_thn hS (below_new _ _))
              have s3TT : ∀ ac wo, LineSt (7 :: List.range' 35 17) a0 W2 26 3 [(36, .int .i64 h), (41, .slice a k c), (43, rickV i e d), (49, .slice (tailA a c k 3) (n - k) (c - k))] 44 (rickB i e d) 7 (watchB 0 none 0 0) 45 (0 + k + 1) (joinF (joinF F (0 * 3) F) ((0 + k) * 3) (rowX i e d)) true true true ac wo → R 3 [14, 13, 12, 11, 8, 6, 5, 4, 3, 1, 0, 2, 7, 10, 9, 17] ac wo := by
                intro ac wo hst
                rw [hR]
                refine rest_split [15] (by kernel_rfl) rfl (fun i9 hi9 => ?_)
                have hi9' : i9 = 15 := by simpa using hi9
                clear hi9
                rcases hi9' with rfl
                · exact line_app (i := 15) (xs := 49) Try.underlying22 hi hz0 hz1' hz2 rfl (by decide) (by decide) rfl rfl rfl rfl (by kernel_rfl) (Nat.lt_of_le_of_lt (by decide) hsz) (by kernel_rfl) rfl rfl hst (hst.fix (49, .slice (tailA a c k 3) (n - k) (c - k)) (by simp)) ((HP2.out.below hst.below).tail hkn hcn) (fun e => by have := HC.out.2 (tailA_none e); omega) (by omega) (by omega) (fun a' w' hst' => ⟨hst'.below, Rest.same (d' := [14, 13, 12, 11, 8, 6, 5, 4, 3, 1, 0, 2, 7, 10, 15, 9, 17]) (by rw [← hR]; exact s4TT a' w' hst') (by kernel_rfl)⟩)
              have s3TF : ∀ ac wo, LineSt (7 :: List.range' 35 17) a0 W2 26 3 [(36, .int .i64 h), (41, .slice a k c), (43, rickV i e d), (49, .slice (tailA a c k 3) (n - k) (c - k))] 44 (rickB i e d) 7 (watchB 0 none 0 0) 45 (0 + k + 1) (joinF (joinF F (0 * 3) F) ((0 + k) * 3) (rowX i e d)) true true false ac wo → R 4 [14, 13, 12, 11, 8, 6, 5, 4, 3, 1, 0, 2, 7, 10, 9] ac wo := by
                intro ac wo hst
                rw [hR]
                refine rest_split [15, 17] (by kernel_rfl) rfl (fun i9 hi9 => ?_)
                have hi9' : i9 = 15 ∨ i9 = 17 := by simpa using hi9
                clear hi9
                rcases hi9' with rfl | rfl
                · exact line_app (i := 15) (xs := 49) Try.underlying22 hi hz0 hz1' hz2 rfl (by decide) (by decide) rfl rfl rfl rfl (by kernel_rfl) (Nat.lt_of_le_of_lt (by decide) hsz) (by kernel_rfl) rfl rfl hst (hst.fix (49, .slice (tailA a c k 3) (n - k) (c - k)) (by simp)) ((HP2.out.below hst.below).tail hkn hcn) (fun e => by have := HC.out.2 (tailA_none e); omega) (by omega) (by omega) (fun a' w' hst' => ⟨hst'.below, Rest.same (d' := [14, 13, 12, 11, 8, 6, 5, 4, 3, 1, 0, 2, 7, 10, 15, 9]) (by rw [← hR]; exact s4TF a' w' hst') (by kernel_rfl)⟩)
                · exact line_box17 (i := 17) rfl rfl rfl (by kernel_rfl) (Nat.lt_of_le_of_lt (by decide) hsz) (by kernel_rfl) rfl rfl hst (by simp [go_sem]; try rfl) (fun a' w' hst' => ⟨hst'.below, Rest.same (d' := [14, 13, 12, 11, 8, 6, 5, 4, 3, 1, 0, 2, 7, 10, 9, 17]) (by rw [← hR]; exact s3TT a' w' hst') (by kernel_rfl)⟩)
              have s2TT : ∀ ac wo, LineSt (7 :: List.range' 35 17) a0 W2 26 3 [(36, .int .i64 h), (41, .slice a k c), (43, rickV i e d), (49, .slice (tailA a c k 3) (n - k) (c - k))] 44 (rickB i e d) 7 (watchB 0 none 0 0) 42 (0 + k) (joinF F (0 * 3) F) true true true ac wo → R 4 [14, 13, 12, 11, 8, 6, 5, 4, 3, 1, 0, 2, 7, 9, 17] ac wo := by
                intro ac wo hst
                rw [hR]
                refine rest_split [10] (by kernel_rfl) rfl (fun i9 hi9 => ?_)
                have hi9' : i9 = 10 := by simpa using hi9
                clear hi9
                rcases hi9' with rfl
                · obtain ⟨_, _, _, hb9, _⟩ := hst.row
                  obtain ⟨B, b1, b2, b3, b4⟩ := hb9 rfl
                  exact line_app (i := 10) (xs := 44) Try.underlying22 hi hz0 hz1' hz2 rfl (by decide) (by decide) rfl rfl rfl rfl (by kernel_rfl) (Nat.lt_of_le_of_lt (by decide) hsz) (by kernel_rfl) rfl rfl hst b1 (nums_rick b4) (fun e => by cases e) (by omega) (by omega) (fun a' w' hst' => ⟨hst'.below, Rest.same (d' := [14, 13, 12, 11, 8, 6, 5, 4, 3, 1, 0, 2, 7, 10, 9, 17]) (by rw [← hR]; exact s3TT a' w' hst') (by kernel_rfl)⟩)
              have s2TF : ∀ ac wo, LineSt (7 :: List.range' 35 17) a0 W2 26 3 [(36, .int .i64 h), (41, .slice a k c), (43, rickV i e d), (49, .slice (tailA a c k 3) (n - k) (c - k))] 44 (rickB i e d) 7 (watchB 0 none 0 0) 42 (0 + k) (joinF F (0 * 3) F) true true false ac wo → R 5 [14, 13, 12, 11, 8, 6, 5, 4, 3, 1, 0, 2, 7, 9] ac wo := by
                intro ac wo hst
                rw [hR]
                refine rest_split [10, 17] (by kernel_rfl) rfl (fun i9 hi9 => ?_)
                have hi9' : i9 = 10 ∨ i9 = 17 := by simpa using hi9
                clear hi9
                rcases hi9' with rfl | rfl
                · obtain ⟨_, _, _, hb9, _⟩ := hst.row
                  obtain ⟨B, b1, b2, b3, b4⟩ := hb9 rfl
                  exact line_app (i := 10) (xs := 44) Try.underlying22 hi hz0 hz1' hz2 rfl (by decide) (by decide) rfl rfl rfl rfl (by kernel_rfl) (Nat.lt_of_le_of_lt (by decide) hsz) (by kernel_rfl) rfl rfl hst b1 (nums_rick b4) (fun e => by cases e) (by omega) (by omega) (fun a' w' hst' => ⟨hst'.below, Rest.same (d' := [14, 13, 12, 11, 8, 6, 5, 4, 3, 1, 0, 2, 7, 10, 9]) (by rw [← hR]; exact s3TF a' w' hst') (by kernel_rfl)⟩)
                · exact line_box17 (i := 17) rfl rfl rfl (by kernel_rfl) (Nat.lt_of_le_of_lt (by decide) hsz) (by kernel_rfl) rfl rfl hst (by simp [go_sem]; try rfl) (fun a' w' hst' => ⟨hst'.below, Rest.same (d' := [14, 13, 12, 11, 8, 6, 5, 4, 3, 1, 0, 2, 7, 9, 17]) (by rw [← hR]; exact s2TT a' w' hst') (by kernel_rfl)⟩)
              have s2FT : ∀ ac wo, LineSt (7 :: List.range' 35 17) a0 W2 26 3 [(36, .int .i64 h), (41, .slice a k c), (43, rickV i e d), (49, .slice (tailA a c k 3) (n - k) (c - k))] 44 (rickB i e d) 7 (watchB 0 none 0 0) 42 (0 + k) (joinF F (0 * 3) F) true false true ac wo → R 5 [14, 13, 12, 11, 8, 6, 5, 4, 3, 1, 0, 2, 7, 17] ac wo := by
                intro ac wo hst
                rw [hR]
                refine rest_split [9] (by kernel_rfl) rfl (fun i9 hi9 => ?_)
                have hi9' : i9 = 9 := by simpa using hi9
                clear hi9
                rcases hi9' with rfl
                · exact line_box9 (i := 9) rfl rfl rfl (by kernel_rfl) (Nat.lt_of_le_of_lt (by decide) hsz) (by kernel_rfl) rfl rfl hst (by have e43 := (hst.fix (43, rickV i e d) (by simp)); have f43 := e43.eval; unfold At at e43; simp [go_sem, e43]; try rfl) (fun a' w' hst' => ⟨hst'.below, Rest.same (d' := [14, 13, 12, 11, 8, 6, 5, 4, 3, 1, 0, 2, 7, 9, 17]) (by rw [← hR]; exact s2TT a' w' hst') (by kernel_rfl)⟩)
              have s2FF : ∀ ac wo, LineSt (7 :: List.range' 35 17) a0 W2 26 3 [(36, .int .i64 h), (41, .slice a k c), (43, rickV i e d), (49, .slice (tailA a c k 3) (n - k) (c - k))] 44 (rickB i e d) 7 (watchB 0 none 0 0) 42 (0 + k) (joinF F (0 * 3) F) true false false ac wo → R 6 [14, 13, 12, 11, 8, 6, 5, 4, 3, 1, 0, 2, 7] ac wo := by
                intro ac wo hst
                rw [hR]
                refine rest_split [9, 17] (by kernel_rfl) rfl (fun i9 hi9 => ?_)
                have hi9' : i9 = 9 ∨ i9 = 17 := by simpa using hi9
                clear hi9
                rcases hi9' with rfl | rfl
                · exact line_box9 (i := 9) rfl rfl rfl (by kernel_rfl) (Nat.lt_of_le_of_lt (by decide) hsz) (by kernel_rfl) rfl rfl hst (by have e43 := (hst.fix (43, rickV i e d) (by simp)); have f43 := e43.eval; unfold At at e43; simp [go_sem, e43]; try rfl) (fun a' w' hst' => ⟨hst'.below, Rest.same (d' := [14, 13, 12, 11, 8, 6, 5, 4, 3, 1, 0, 2, 7, 9]) (by rw [← hR]; exact s2TF a' w' hst') (by kernel_rfl)⟩)
                · exact line_box17 (i := 17) rfl rfl rfl (by kernel_rfl) (Nat.lt_of_le_of_lt (by decide) hsz) (by kernel_rfl) rfl rfl hst (by simp [go_sem]; try rfl) (fun a' w' hst' => ⟨hst'.below, Rest.same (d' := [14, 13, 12, 11, 8, 6, 5, 4, 3, 1, 0, 2, 7, 17]) (by rw [← hR]; exact s2FT a' w' hst') (by kernel_rfl)⟩)
              have s1TT : ∀ ac wo, LineSt (7 :: List.range' 35 17) a0 W2 26 3 [(36, .int .i64 h), (41, .slice a k c), (43, rickV i e d), (49, .slice (tailA a c k 3) (n - k) (c - k))] 44 (rickB i e d) 7 (watchB 0 none 0 0) 37 (0) (F) true true true ac wo → R 5 [14, 13, 12, 11, 8, 6, 5, 4, 3, 1, 0, 2, 9, 17] ac wo := by
                intro ac wo hst
                rw [hR]
                refine rest_split [7] (by kernel_rfl) rfl (fun i9 hi9 => ?_)
                have hi9' : i9 = 7 := by simpa using hi9
                clear hi9
                rcases hi9' with rfl
                · exact line_app (i := 7) (xs := 41) Try.underlying22 hi hz0 hz1' hz2 rfl (by decide) (by decide) rfl rfl rfl rfl (by kernel_rfl) (Nat.lt_of_le_of_lt (by decide) hsz) (by kernel_rfl) rfl rfl hst (hst.fix (41, .slice a k c) (by simp)) ((HP2.out.below hst.below).head hkn) (fun e => by have := HC.out.2 e; omega) (by omega) (by omega) (fun a' w' hst' => ⟨hst'.below, Rest.same (d' := [14, 13, 12, 11, 8, 6, 5, 4, 3, 1, 0, 2, 7, 9, 17]) (by rw [← hR]; exact s2TT a' w' hst') (by kernel_rfl)⟩)
              have s1TF : ∀ ac wo, LineSt (7 :: List.range' 35 17) a0 W2 26 3 [(36, .int .i64 h), (41, .slice a k c), (43, rickV i e d), (49, .slice (tailA a c k 3) (n - k) (c - k))] 44 (rickB i e d) 7 (watchB 0 none 0 0) 37 (0) (F) true true false ac wo → R 6 [14, 13, 12, 11, 8, 6, 5, 4, 3, 1, 0, 2, 9] ac wo := by
                intro ac wo hst
                rw [hR]
                refine rest_split [7, 17] (by kernel_rfl) rfl (fun i9 hi9 => ?_)
                have hi9' : i9 = 7 ∨ i9 = 17 := by simpa using hi9
                clear hi9
                rcases hi9' with rfl | rfl
                · exact line_app (i := 7) (xs := 41) Try.underlying22 hi hz0 hz1' hz2 rfl (by decide) (by decide) rfl rfl rfl rfl (by kernel_rfl) (Nat.lt_of_le_of_lt (by decide) hsz) (by kernel_rfl) rfl rfl hst (hst.fix (41, .slice a k c) (by simp)) ((HP2.out.below hst.below).head hkn) (fun e => by have := HC.out.2 e; omega) (by omega) (by omega) (fun a' w' hst' => ⟨hst'.below, Rest.same (d' := [14, 13, 12, 11, 8, 6, 5, 4, 3, 1, 0, 2, 7, 9]) (by rw [← hR]; exact s2TF a' w' hst') (by kernel_rfl)⟩)
                · exact line_box17 (i := 17) rfl rfl rfl (by kernel_rfl) (Nat.lt_of_le_of_lt (by decide) hsz) (by kernel_rfl) rfl rfl hst (by simp [go_sem]; try rfl) (fun a' w' hst' => ⟨hst'.below, Rest.same (d' := [14, 13, 12, 11, 8, 6, 5, 4, 3, 1, 0, 2, 9, 17]) (by rw [← hR]; exact s1TT a' w' hst') (by kernel_rfl)⟩)
              have s1FT : ∀ ac wo, LineSt (7 :: List.range' 35 17) a0 W2 26 3 [(36, .int .i64 h), (41, .slice a k c), (43, rickV i e d), (49, .slice (tailA a c k 3) (n - k) (c - k))] 44 (rickB i e d) 7 (watchB 0 none 0 0) 37 (0) (F) true false true ac wo → R 6 [14, 13, 12, 11, 8, 6, 5, 4, 3, 1, 0, 2, 17] ac wo := by
                intro ac wo hst
                rw [hR]
                refine rest_split [7, 9] (by kernel_rfl) rfl (fun i9 hi9 => ?_)
                have hi9' : i9 = 7 ∨ i9 = 9 := by simpa using hi9
                clear hi9
                rcases hi9' with rfl | rfl
                · exact line_app (i := 7) (xs := 41) Try.underlying22 hi hz0 hz1' hz2 rfl (by decide) (by decide) rfl rfl rfl rfl (by kernel_rfl) (Nat.lt_of_le_of_lt (by decide) hsz) (by kernel_rfl) rfl rfl hst (hst.fix (41, .slice a k c) (by simp)) ((HP2.out.below hst.below).head hkn) (fun e => by have := HC.out.2 e; omega) (by omega) (by omega) (fun a' w' hst' => ⟨hst'.below, Rest.same (d' := [14, 13, 12, 11, 8, 6, 5, 4, 3, 1, 0, 2, 7, 17]) (by rw [← hR]; exact s2FT a' w' hst') (by kernel_rfl)⟩)
                · exact line_box9 (i := 9) rfl rfl rfl (by kernel_rfl) (Nat.lt_of_le_of_lt (by decide) hsz) (by kernel_rfl) rfl rfl hst (by have e43 := (hst.fix (43, rickV i e d) (by simp)); have f43 := e43.eval; unfold At at e43; simp [go_sem, e43]; try rfl) (fun a' w' hst' => ⟨hst'.below, Rest.same (d' := [14, 13, 12, 11, 8, 6, 5, 4, 3, 1, 0, 2, 9, 17]) (by rw [← hR]; exact s1TT a' w' hst') (by kernel_rfl)⟩)
              have s1FF : ∀ ac wo, LineSt (7 :: List.range' 35 17) a0 W2 26 3 [(36, .int .i64 h), (41, .slice a k c), (43, rickV i e d), (49, .slice (tailA a c k 3) (n - k) (c - k))] 44 (rickB i e d) 7 (watchB 0 none 0 0) 37 (0) (F) true false false ac wo → R 7 [14, 13, 12, 11, 8, 6, 5, 4, 3, 1, 0, 2] ac wo := by
                intro ac wo hst
                rw [hR]
                refine rest_split [7, 9, 17] (by kernel_rfl) rfl (fun i9 hi9 => ?_)
                have hi9' : i9 = 7 ∨ i9 = 9 ∨ i9 = 17 := by simpa using hi9
                clear hi9
                rcases hi9' with rfl | rfl | rfl
                · exact line_app (i := 7) (xs := 41) Try.underlying22 hi hz0 hz1' hz2 rfl (by decide) (by decide) rfl rfl rfl rfl (by kernel_rfl) (Nat.lt_of_le_of_lt (by decide) hsz) (by kernel_rfl) rfl rfl hst (hst.fix (41, .slice a k c) (by simp)) ((HP2.out.below hst.below).head hkn) (fun e => by have := HC.out.2 e; omega) (by omega) (by omega) (fun a' w' hst' => ⟨hst'.below, Rest.same (d' := [14, 13, 12, 11, 8, 6, 5, 4, 3, 1, 0, 2, 7]) (by rw [← hR]; exact s2FF a' w' hst') (by kernel_rfl)⟩)
                · exact line_box9 (i := 9) rfl rfl rfl (by kernel_rfl) (Nat.lt_of_le_of_lt (by decide) hsz) (by kernel_rfl) rfl rfl hst (by have e43 := (hst.fix (43, rickV i e d) (by simp)); have f43 := e43.eval; unfold At at e43; simp [go_sem, e43]; try rfl) (fun a' w' hst' => ⟨hst'.below, Rest.same (d' := [14, 13, 12, 11, 8, 6, 5, 4, 3, 1, 0, 2, 9]) (by rw [← hR]; exact s1TF a' w' hst') (by kernel_rfl)⟩)
                · exact line_box17 (i := 17) rfl rfl rfl (by kernel_rfl) (Nat.lt_of_le_of_lt (by decide) hsz) (by kernel_rfl) rfl rfl hst (by simp [go_sem]; try rfl) (fun a' w' hst' => ⟨hst'.below, Rest.same (d' := [14, 13, 12, 11, 8, 6, 5, 4, 3, 1, 0, 2, 17]) (by rw [← hR]; exact s1FT a' w' hst') (by kernel_rfl)⟩)
              have s0TT : ∀ ac wo, LineSt (7 :: List.range' 35 17) a0 W2 26 3 [(36, .int .i64 h), (41, .slice a k c), (43, rickV i e d), (49, .slice (tailA a c k 3) (n - k) (c - k))] 44 (rickB i e d) 7 (watchB 0 none 0 0) 37 (0) (F) false true true ac wo → R 6 [14, 13, 12, 11, 8, 6, 5, 4, 3, 1, 0, 9, 17] ac wo := by
                intro ac wo hst
                rw [hR]
                refine rest_split [2] (by kernel_rfl) rfl (fun i9 hi9 => ?_)
                have hi9' : i9 = 2 := by simpa using hi9
                clear hi9
                rcases hi9' with rfl
                · exact line_start (i := 2) rfl rfl rfl (by kernel_rfl) (Nat.lt_of_le_of_lt (by decide) hsz) (by kernel_rfl) rfl rfl hst (by simp [go_sem]; try rfl) F (fun a' w' hst' => ⟨hst'.below, Rest.same (d' := [14, 13, 12, 11, 8, 6, 5, 4, 3, 1, 0, 2, 9, 17]) (by rw [← hR]; exact s1TT a' w' hst') (by kernel_rfl)⟩)
              have s0TF : ∀ ac wo, LineSt (7 :: List.range' 35 17) a0 W2 26 3 [(36, .int .i64 h), (41, .slice a k c), (43, rickV i e d), (49, .slice (tailA a c k 3) (n - k) (c - k))] 44 (rickB i e d) 7 (watchB 0 none 0 0) 37 (0) (F) false true false ac wo → R 7 [14, 13, 12, 11, 8, 6, 5, 4, 3, 1, 0, 9] ac wo := by
                intro ac wo hst
                rw [hR]
                refine rest_split [2, 17] (by kernel_rfl) rfl (fun i9 hi9 => ?_)
                have hi9' : i9 = 2 ∨ i9 = 17 := by simpa using hi9
                clear hi9
                rcases hi9' with rfl | rfl
                · exact line_start (i := 2) rfl rfl rfl (by kernel_rfl) (Nat.lt_of_le_of_lt (by decide) hsz) (by kernel_rfl) rfl rfl hst (by simp [go_sem]; try rfl) F (fun a' w' hst' => ⟨hst'.below, Rest.same (d' := [14, 13, 12, 11, 8, 6, 5, 4, 3, 1, 0, 2, 9]) (by rw [← hR]; exact s1TF a' w' hst') (by kernel_rfl)⟩)
                · exact line_box17 (i := 17) rfl rfl rfl (by kernel_rfl) (Nat.lt_of_le_of_lt (by decide) hsz) (by kernel_rfl) rfl rfl hst (by simp [go_sem]; try rfl) (fun a' w' hst' => ⟨hst'.below, Rest.same (d' := [14, 13, 12, 11, 8, 6, 5, 4, 3, 1, 0, 9, 17]) (by rw [← hR]; exact s0TT a' w' hst') (by kernel_rfl)⟩)
              have s0FT : ∀ ac wo, LineSt (7 :: List.range' 35 17) a0 W2 26 3 [(36, .int .i64 h), (41, .slice a k c), (43, rickV i e d), (49, .slice (tailA a c k 3) (n - k) (c - k))] 44 (rickB i e d) 7 (watchB 0 none 0 0) 37 (0) (F) false false true ac wo → R 7 [14, 13, 12, 11, 8, 6, 5, 4, 3, 1, 0, 17] ac wo := by
                intro ac wo hst
                rw [hR]
                refine rest_split [2, 9] (by kernel_rfl) rfl (fun i9 hi9 => ?_)
                have hi9' : i9 = 2 ∨ i9 = 9 := by simpa using hi9
                clear hi9
                rcases hi9' with rfl | rfl
                · exact line_start (i := 2) rfl rfl rfl (by kernel_rfl) (Nat.lt_of_le_of_lt (by decide) hsz) (by kernel_rfl) rfl rfl hst (by simp [go_sem]; try rfl) F (fun a' w' hst' => ⟨hst'.below, Rest.same (d' := [14, 13, 12, 11, 8, 6, 5, 4, 3, 1, 0, 2, 17]) (by rw [← hR]; exact s1FT a' w' hst') (by kernel_rfl)⟩)
                · exact line_box9 (i := 9) rfl rfl rfl (by kernel_rfl) (Nat.lt_of_le_of_lt (by decide) hsz) (by kernel_rfl) rfl rfl hst (by have e43 := (hst.fix (43, rickV i e d) (by simp)); have f43 := e43.eval; unfold At at e43; simp [go_sem, e43]; try rfl) (fun a' w' hst' => ⟨hst'.below, Rest.same (d' := [14, 13, 12, 11, 8, 6, 5, 4, 3, 1, 0, 9, 17]) (by rw [← hR]; exact s0TT a' w' hst') (by kernel_rfl)⟩)
              have s0FF : ∀ ac wo, LineSt (7 :: List.range' 35 17) a0 W2 26 3 [(36, .int .i64 h), (41, .slice a k c), (43, rickV i e d), (49, .slice (tailA a c k 3) (n - k) (c - k))] 44 (rickB i e d) 7 (watchB 0 none 0 0) 37 (0) (F) false false false ac wo → R 8 [14, 13, 12, 11, 8, 6, 5, 4, 3, 1, 0] ac wo := by
                intro ac wo hst
                rw [hR]
                refine rest_split [2, 9, 17] (by kernel_rfl) rfl (fun i9 hi9 => ?_)
                have hi9' : i9 = 2 ∨ i9 = 9 ∨ i9 = 17 := by simpa using hi9
                clear hi9
                rcases hi9' with rfl | rfl | rfl
                · exact line_start (i := 2) rfl rfl rfl (by kernel_rfl) (Nat.lt_of_le_of_lt (by decide) hsz) (by kernel_rfl) rfl rfl hst (by simp [go_sem]; try rfl) F (fun a' w' hst' => ⟨hst'.below, Rest.same (d' := [14, 13, 12, 11, 8, 6, 5, 4, 3, 1, 0, 2]) (by rw [← hR]; exact s1FF a' w' hst') (by kernel_rfl)⟩)
                · exact line_box9 (i := 9) rfl rfl rfl (by kernel_rfl) (Nat.lt_of_le_of_lt (by decide) hsz) (by kernel_rfl) rfl rfl hst (by have e43 := (hst.fix (43, rickV i e d) (by simp)); have f43 := e43.eval; unfold At at e43; simp [go_sem, e43]; try rfl) (fun a' w' hst' => ⟨hst'.below, Rest.same (d' := [14, 13, 12, 11, 8, 6, 5, 4, 3, 1, 0, 9]) (by rw [← hR]; exact s0TF a' w' hst') (by kernel_rfl)⟩)
                · exact line_box17 (i := 17) rfl rfl rfl (by kernel_rfl) (Nat.lt_of_le_of_lt (by decide) hsz) (by kernel_rfl) rfl rfl hst (by simp [go_sem]; try rfl) (fun a' w' hst' => ⟨hst'.below, Rest.same (d' := [14, 13, 12, 11, 8, 6, 5, 4, 3, 1, 0, 17]) (by rw [← hR]; exact s0FT a' w' hst') (by kernel_rfl)⟩)
              exact s0FF _ _ ⟨hI, List.forall_mem_cons.2 ⟨n36, List.forall_mem_cons.2 ⟨n41, List.forall_mem_cons.2 ⟨n43, List.forall_mem_cons.2 ⟨n49, fun _ h => by cases h⟩⟩⟩⟩, hq, ⟨none, 0, (fun h => by cases h), (fun h => by cases h), (fun h => by cases h)⟩⟩
            case rest =>
              obtain ⟨U, rfl⟩ : ∃ x, x = wc := ⟨_, rfl⟩
              obtain ⟨B, aa, cc, rfl, hBW, hbx, ho, hb⟩ := hcut
              have HYU := Lib.hid (heap_lft HY2.out hb)
              have HXU := Lib.hid hbx
              have HOU := Lib.hid ho
              have HBU := Lib.hid (below_thn HB2.out hb)
              have HLE := Lib.hid hb.size
              clear hbx ho hb
              have x0 := heap_cell HXU.out (j := 0) rfl
              have x1 := heap_cell HXU.out (j := 1) rfl
              go_wp2_with fail
              refine (rWatch_any h aa (n + 1) cc (Pure.insF F k (rowX i e d)) (by omega) _ HOU.out.nums).mono ?_
              rintro e3 N ⟨rfl, hb⟩
              have HYN := Lib.hid (heap_lft HYU.out hb)
              have HXN := Lib.hid (heap_lft HXU.out hb)
              have HON := Lib.hid (HOU.out.below hb)
              have HBN := Lib.hid (below_thn HBU.out hb)
              clear hb x0 x1
              obtain ⟨r, hr⟩ : ∃ r, Pure.watch h (n + 1) (Pure.insF F k (rowX i e d)) = r := ⟨_, rfl⟩
              rw [hr]
              have HR := Lib.hid hr
              clear hr
              have x0 := heap_cell HXN.out (j := 0) rfl
              have x1 := heap_cell HXN.out (j := 1) rfl
              have y0 := heap_cell HYN.out (j := 0) rfl
              have y1 := heap_cell HYN.out (j := 1) rfl
              have f0 := heap_frozen HYN.out 0
              have f1 := heap_frozen HYN.out 1
              cases r
              · go_wp2_with fail
                refine bodyPost_ret (v := .tuple #[watchV 0 none 0 0, .int .i64 71]) (by simp [results, Try.results7, go_sem, y0, y1]; try rfl) rfl ⟨0, none, 0, 0, 71, rfl, ?_, .inr (.inr ⟨HWT.out, H4.out, k, HK.out, .inl ⟨HR.out, ⟨rfl, rfl, rfl, rfl⟩, rfl⟩⟩)⟩
                repeat (first | with_reducible exact HBN.out | with_reducible refine Below.setCell ?_ (by first | (simp; done) | (dsimp only; omega)) _)
              · go_wp2_with fail
                refine bodyPost_ret (v := .tuple #[watchV h aa (n + 1) cc, .int .i64 0]) (by simp [results, Try.results7, go_sem, y0, y1]; try rfl) rfl ⟨h, aa, n + 1, cc, 0, rfl, ?_, .inr (.inr ⟨HWT.out, H4.out, k, HK.out, .inr ⟨HR.out, rfl, rfl, rfl, ?_⟩⟩)⟩
                repeat (first | with_reducible exact HBN.out | with_reducible refine Below.setCell ?_ (by first | (simp; done) | (dsimp only; omega)) _)
                have hs2 := HS2.out
                refine OwnNums.base (base := W2.heap.size) ?_ (by omega)
                repeat (first | with_reducible exact HON.out | with_reducible refine OwnNums.set ?_ (by dsimp only; omega) _)
          · have hkn : k < n := (of_decide_eq_true HG.out).1
            have HKN := Lib.hid hkn
            clear hkn
            go_wp2_with fail
            go_roundw
            case rel => exact ⟨k + 1, HKN.out, by go_num, fun m hm => by
              by_cases e : m = k
              · subst e; exact (of_decide_eq_true HG.out).2
              · exact HLO.out m (by omega), HB2k.out⟩
            case measure => have := HKN.out; simp [intOf]; omega

end Go.Proofs.Ytknpdjbokgenpab
