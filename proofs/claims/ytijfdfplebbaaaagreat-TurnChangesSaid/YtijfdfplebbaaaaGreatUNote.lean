/-
  The contracts of what is wrong of a note, of notesFit, questions and Check.
-/
import Derived.Test.YtijfdfplebbaaaaGreatUFit
namespace Go.Proofs.YtijfdfplebbaaaaGreat
open Go.RowKit

theorem things_two {w : World} {v : Nat} {m1 p1 m2 p2 : Int} {b1 b2 : Bool} {t : TypeId} (h : w.heap[v]? = some (.cells #[.int .i64 m1, .int .i64 p1, .bool b1, .int .i64 m2, .int .i64 p2, .bool b2] t)) :
    ThingsAt w (some ⟨v, 0, none⟩) 2 (fun j => if j = 0 then m1 else m2) (fun j => if j = 0 then p1 else p2) (fun j => if j = 0 then b1 else b2) := fun j hj => by
  have h2 : j = 0 ∨ j = 1 := by omega
  rcases h2 with rfl | rfl
  · exact ⟨v, 0, rfl, heap_cell h (j := 0) rfl, heap_cell h (j := 1) rfl, heap_cell h (j := 2) rfl⟩
  · exact ⟨v, 0, rfl, heap_cell h (j := 3) rfl, heap_cell h (j := 4) rfl, heap_cell h (j := 5) rfl⟩
theorem Pure.two_bad (r : RollX) (d : RollD) (m1 p1 m2 p2 : Int) : ((List.range 2).any fun j => Pure.thingBad r d (if j = 0 then m1 else m2) (if j = 0 then p1 else p2)) = (Pure.thingBad r d m1 p1 || Pure.thingBad r d m2 p2) := by
  simp [List.range_succ]
set_option maxHeartbeats 4000000 in
set_option maxRecDepth 100000 in
theorem noteBad_any (B : Nat) (r : RollX) (d : RollD) (x : NoteX) (hN : RollN r) (w : World) (hB : w.heap[B]? = some (rollB r)) (hR : RollAt w r d) :
    Calls Tryz.prog 88 #[tnoteV x, .pointer (some ⟨B, 0, none⟩)] w fun e w' => e = .returned (.bool (Pure.noteBad r d x)) ∧ Below w.heap.size w w' := by
  obtain ⟨W, hW⟩ : ∃ W, w.alloc (tnoteB x) = W := ⟨_, rfl⟩
  have HB : Hid (Below w.heap.size w W) := Lib.hid (by rw [← hW]; exact below_new _ _)
  have HX : Hid (W.heap[w.heap.size]? = some (tnoteB x)) := Lib.hid (by rw [← hW]; exact heap_top _ _ rfl)
  have HRB := Lib.hid (heap_lft hB HB.out)
  have HRA := Lib.hid (hR.below HB.out)
  clear hR hB
  unfold Pure.noteBad
  obtain ⟨r1, hr1⟩ : ∃ q, decide (1 ≤ x.n ∧ x.n ≤ 9999) = q := ⟨_, rfl⟩
  obtain ⟨r2, hr2⟩ : ∃ q, (Pure.thingBad r d x.m1 x.p1 || Pure.thingBad r d x.m2 x.p2) = q := ⟨_, rfl⟩
  rw [hr1, hr2]
  have HR1 := Lib.hid hr1
  have HR2 := Lib.hid hr2
  clear hr1 hr2
  go_enter Tryz.func88, Tryz.ntmps88
  go_upto_region 1 with fail
  try rw [hW]
  clear hW
  go_cut [3] from 4 to 19 (fun s wx => s = .bool (!r1 || r2) ∧ Below W.heap.size W wx)
  case first =>
    rename_i J K' hJ hK'
    generalize hA : (Act.mk _ _ : Act) = a0
    have m1 : At a0 1 (.pointer (some ⟨B, 0, none⟩)) := by rw [← hA]; rfl
    have m2 : At a0 2 (.pointer (some ⟨w.heap.size, 0, none⟩)) := by rw [← hA]; rfl
    have hsz : 19 < a0.tmps.size := by rw [← hA]; exact of_decide_eq_true (by kernel_rfl)
    have hfin : ∀ a' w', Kept (3 :: List.range' 4 16) a0 a' → At a' 3 (.bool (!r1 || r2)) → (Below W.heap.size W w') → K' a' w' := by
      intro a' w' hI hv3 hL
      refine hK' _ _ (Met.intro (hJ _ _ ⟨a'.tmps.getD 3 undef, a'.tmps.getD 4 undef, a'.tmps.getD 5 undef, a'.tmps.getD 6 undef, a'.tmps.getD 7 undef, a'.tmps.getD 8 undef, a'.tmps.getD 9 undef, a'.tmps.getD 10 undef, a'.tmps.getD 11 undef, a'.tmps.getD 12 undef, a'.tmps.getD 13 undef, a'.tmps.getD 14 undef, a'.tmps.getD 15 undef, a'.tmps.getD 16 undef, a'.tmps.getD 17 undef, a'.tmps.getD 18 undef, a'.tmps.getD 19 undef, ⟨by have g := hv3; unfold At at g; rw [Array.getD_eq_getD_getElem?, g]; rfl, hL⟩, hI.eq.trans ?_⟩))
      rw [← hA]
      kernel_rfl
    have hI : Kept (3 :: List.range' 4 16) a0 a0 := Kept.refl _ _
    clear hA hJ hK' J
    refine with_pan (fun d _ _ _ _ h => by cases d <;> exact h) ?_
    intro hpan
    refine wp_region_rest (fun z => z.heap[w.heap.size]? = some (tnoteB x) ∧ z.heap[B]? = some (rollB r)) (by kernel_rfl) ?_
    obtain ⟨wz, hwz⟩ : ∃ x, W.drew = x := ⟨_, rfl⟩
    change Rest _ _ _ _ _ _ _ (W.drew)
    rw [hwz]
    have hq : Below W.heap.size W wz := by rw [← hwz]; exact (Below.refl _ _).drew
    clear hwz
    have hS : wz.heap[w.heap.size]? = some (tnoteB x) ∧ wz.heap[B]? = some (rollB r) := ⟨heap_lft HX.out hq, heap_lft HRB.out hq⟩
    refine rest_take (k := 1) (d := 5) (v := .pointer (some ⟨w.heap.size, 0, none⟩)) hI rfl rfl (by kernel_rfl) (Nat.lt_of_le_of_lt (by decide) hsz) (by kernel_rfl) hpan (by kernel_rfl) hS (wanted_free rfl) (fun z hz => by have n2 := hI.at m2 (by kernel_rfl); have e2 := n2; have f2 := n2.eval; unfold At at e2; simp [go_sem, e2]) (fun a' hI' n5' hk => ?_)
    have n5 := n5'
    replace hI := hI'
    clear hk hI' n5'
    obtain ⟨act9, rfl⟩ : ∃ x, x = a' := ⟨_, rfl⟩
    refine rest_take (k := 2) (d := 6) (v := .int .i64 x.n) hI rfl rfl (by kernel_rfl) (Nat.lt_of_le_of_lt (by decide) hsz) (by kernel_rfl) hpan (by kernel_rfl) hS (wanted_free rfl) (fun z hz => by have e5 := n5; have f5 := n5.eval; unfold At at e5; have k0 := heap_cell hz.1 (j := 0) rfl; simp [go_sem, e5, k0]) (fun a' hI' n6' hk => ?_)
    replace n5 := hk _ _ n5 rfl
    have n6 := n6'
    replace hI := hI'
    clear hk hI' n6'
    obtain ⟨act9, rfl⟩ : ∃ x, x = a' := ⟨_, rfl⟩
    clear n5
    refine rest_name (fun R hR => ?_)
    have tl : ∀ ac wo B6, Kept (3 :: List.range' 4 16) a0 ac → At ac 4 (spanV 1 9999) → At ac 7 (.slice (some ⟨B6, 0, none⟩) 1 1) → Below W.heap.size W wo → wo.cell? ⟨B6, 0, none⟩ = some (.int .i64 x.n) → R 13 [3, 0, 2, 1] ac wo := by
      intro ac wo B6 hI n4 n7 hq hcb
      have hS : wo.heap[w.heap.size]? = some (tnoteB x) ∧ wo.heap[B]? = some (rollB r) := ⟨heap_lft HX.out hq, heap_lft HRB.out hq⟩
      rw [hR]
      refine rest_only (k := 4) (by kernel_rfl) (op_call (k := 4) (d := 8) (R := fun v w' => v = .bool r1 ∧ w' = wo.alloc (spanB 1 9999)) hI rfl rfl (by kernel_rfl) (Nat.lt_of_le_of_lt (by decide) hsz) (wanted_free rfl) ((twithin1 1 9999 x.n B6 1 _ hcb r1 HR1.out).mono fun e w' g => ⟨_, g.1, rfl, g.2⟩) (by have e4 := n4; have f4 := n4.eval; unfold At at e4; have e7 := n7; have f7 := n7.eval; unfold At at e7; simp [go_sem, e4, e7]) ?_)
      intro v w' a' hR' hI' n8' hk
      obtain ⟨rfl, rfl⟩ := hR'
      refine ⟨(And.intro (heap_lft hS.1 (below_new _ _)) (heap_lft hS.2 (below_new _ _))), ?_⟩
      replace n4 := hk _ _ n4 rfl
      replace n7 := hk _ _ n7 rfl
      have n8 := n8'
      replace hI := hI'
      clear hk hI' n8'
      obtain ⟨act9, rfl⟩ : ∃ x, x = a' := ⟨_, rfl⟩
      replace hS : (wo.alloc (spanB 1 9999)).heap[w.heap.size]? = some (tnoteB x) ∧ (wo.alloc (spanB 1 9999)).heap[B]? = some (rollB r) := (And.intro (heap_lft hS.1 (below_new _ (spanB 1 9999))) (heap_lft hS.2 (below_new _ (spanB 1 9999))))
      replace hq := below_thn hq (below_new _ (spanB 1 9999))
      clear hcb
      obtain ⟨v1, hwe⟩ : ∃ y, wo.alloc (spanB 1 9999) = y := ⟨_, rfl⟩
      rw [hwe] at hS hq ⊢
      clear hwe
      clear n4
      clear n7
      cases r1
      · refine rest_take (k := 5) (d := 9) (v := .bool true) hI rfl rfl (by kernel_rfl) (Nat.lt_of_le_of_lt (by decide) hsz) (by kernel_rfl) hpan (by kernel_rfl) hS (wanted_free rfl) (fun z hz => by have e8 := n8; have f8 := n8.eval; unfold At at e8; simp [go_sem, e8]) (fun a' hI' n9' hk => ?_)
        replace n8 := hk _ _ n8 rfl
        have n9 := n9'
        replace hI := hI'
        clear hk hI' n9'
        obtain ⟨act9, rfl⟩ : ∃ x, x = a' := ⟨_, rfl⟩
        refine rest_take (k := 6) (d := 10) (v := .bool true) hI rfl rfl (by kernel_rfl) (Nat.lt_of_le_of_lt (by decide) hsz) (by kernel_rfl) hpan (by kernel_rfl) hS (wanted_free rfl) (fun z hz => by have e9 := n9; have f9 := n9.eval; unfold At at e9; simp [go_sem, e9]) (fun a' hI' n10' hk => ?_)
        replace n8 := hk _ _ n8 rfl
        replace n9 := hk _ _ n9 rfl
        have n10 := n10'
        replace hI := hI'
        clear hk hI' n10'
        obtain ⟨act9, rfl⟩ : ∃ x, x = a' := ⟨_, rfl⟩
        clear n8
        clear n9
        refine rest_skip (k := 7) (d := 11) hI rfl rfl (by kernel_rfl) (Nat.lt_of_le_of_lt (by decide) hsz) (by kernel_rfl) hpan (by kernel_rfl) hS (unwanted_at rfl rfl n10 rfl) (fun a' hI' n11' hk => ?_)
        replace n10 := hk _ _ n10 rfl
        have n11 := n11'
        replace hI := hI'
        clear hk hI' n11'
        obtain ⟨act9, rfl⟩ : ∃ x, x = a' := ⟨_, rfl⟩
        refine rest_skip (k := 8) (d := 12) hI rfl rfl (by kernel_rfl) (Nat.lt_of_le_of_lt (by decide) hsz) (by kernel_rfl) hpan (by kernel_rfl) hS (unwanted_at rfl rfl n10 rfl) (fun a' hI' n12' hk => ?_)
        replace n10 := hk _ _ n10 rfl
        replace n11 := hk _ _ n11 rfl
        have n12 := n12'
        replace hI := hI'
        clear hk hI' n12'
        obtain ⟨act9, rfl⟩ : ∃ x, x = a' := ⟨_, rfl⟩
        refine rest_skip (k := 9) (d := 13) hI rfl rfl (by kernel_rfl) (Nat.lt_of_le_of_lt (by decide) hsz) (by kernel_rfl) hpan (by kernel_rfl) hS (unwanted_at rfl rfl n10 rfl) (fun a' hI' n13' hk => ?_)
        replace n10 := hk _ _ n10 rfl
        replace n11 := hk _ _ n11 rfl
        replace n12 := hk _ _ n12 rfl
        have n13 := n13'
        replace hI := hI'
        clear hk hI' n13'
        obtain ⟨act9, rfl⟩ : ∃ x, x = a' := ⟨_, rfl⟩
        refine rest_skip (k := 10) (d := 14) hI rfl rfl (by kernel_rfl) (Nat.lt_of_le_of_lt (by decide) hsz) (by kernel_rfl) hpan (by kernel_rfl) hS (unwanted_at rfl rfl n10 rfl) (fun a' hI' n14' hk => ?_)
        replace n10 := hk _ _ n10 rfl
        replace n11 := hk _ _ n11 rfl
        replace n12 := hk _ _ n12 rfl
        replace n13 := hk _ _ n13 rfl
        have n14 := n14'
        replace hI := hI'
        clear hk hI' n14'
        obtain ⟨act9, rfl⟩ : ∃ x, x = a' := ⟨_, rfl⟩
        refine rest_skip (k := 11) (d := 15) hI rfl rfl (by kernel_rfl) (Nat.lt_of_le_of_lt (by decide) hsz) (by kernel_rfl) hpan (by kernel_rfl) hS (unwanted_at rfl rfl n10 rfl) (fun a' hI' n15' hk => ?_)
        replace n10 := hk _ _ n10 rfl
        replace n11 := hk _ _ n11 rfl
        replace n12 := hk _ _ n12 rfl
        replace n13 := hk _ _ n13 rfl
        replace n14 := hk _ _ n14 rfl
        have n15 := n15'
        replace hI := hI'
        clear hk hI' n15'
        obtain ⟨act9, rfl⟩ : ∃ x, x = a' := ⟨_, rfl⟩
        refine rest_skip (k := 12) (d := 16) hI rfl rfl (by kernel_rfl) (Nat.lt_of_le_of_lt (by decide) hsz) (by kernel_rfl) hpan (by kernel_rfl) hS (unwanted_at rfl rfl n10 rfl) (fun a' hI' n16' hk => ?_)
        replace n10 := hk _ _ n10 rfl
        replace n11 := hk _ _ n11 rfl
        replace n12 := hk _ _ n12 rfl
        replace n13 := hk _ _ n13 rfl
        replace n14 := hk _ _ n14 rfl
        replace n15 := hk _ _ n15 rfl
        have n16 := n16'
        replace hI := hI'
        clear hk hI' n16'
        obtain ⟨act9, rfl⟩ : ∃ x, x = a' := ⟨_, rfl⟩
        refine rest_skip (k := 13) (d := 17) hI rfl rfl (by kernel_rfl) (Nat.lt_of_le_of_lt (by decide) hsz) (by kernel_rfl) hpan (by kernel_rfl) hS (unwanted_at rfl rfl n10 rfl) (fun a' hI' n17' hk => ?_)
        replace n10 := hk _ _ n10 rfl
        replace n11 := hk _ _ n11 rfl
        replace n12 := hk _ _ n12 rfl
        replace n13 := hk _ _ n13 rfl
        replace n14 := hk _ _ n14 rfl
        replace n15 := hk _ _ n15 rfl
        replace n16 := hk _ _ n16 rfl
        have n17 := n17'
        replace hI := hI'
        clear hk hI' n17'
        obtain ⟨act9, rfl⟩ : ∃ x, x = a' := ⟨_, rfl⟩
        refine rest_skip (k := 14) (d := 18) hI rfl rfl (by kernel_rfl) (Nat.lt_of_le_of_lt (by decide) hsz) (by kernel_rfl) hpan (by kernel_rfl) hS (unwanted_at rfl rfl n10 rfl) (fun a' hI' n18' hk => ?_)
        replace n10 := hk _ _ n10 rfl
        replace n11 := hk _ _ n11 rfl
        replace n12 := hk _ _ n12 rfl
        replace n13 := hk _ _ n13 rfl
        replace n14 := hk _ _ n14 rfl
        replace n15 := hk _ _ n15 rfl
        replace n16 := hk _ _ n16 rfl
        replace n17 := hk _ _ n17 rfl
        have n18 := n18'
        replace hI := hI'
        clear hk hI' n18'
        obtain ⟨act9, rfl⟩ : ∃ x, x = a' := ⟨_, rfl⟩
        refine rest_take (k := 15) (d := 19) (v := .bool true) hI rfl rfl (by kernel_rfl) (Nat.lt_of_le_of_lt (by decide) hsz) (by kernel_rfl) hpan (by kernel_rfl) hS (wanted_free rfl) (fun z hz => by have e10 := n10; have f10 := n10.eval; unfold At at e10; simp [go_sem, e10]) (fun a' hI' n19' hk => ?_)
        replace n10 := hk _ _ n10 rfl
        replace n11 := hk _ _ n11 rfl
        replace n12 := hk _ _ n12 rfl
        replace n13 := hk _ _ n13 rfl
        replace n14 := hk _ _ n14 rfl
        replace n15 := hk _ _ n15 rfl
        replace n16 := hk _ _ n16 rfl
        replace n17 := hk _ _ n17 rfl
        replace n18 := hk _ _ n18 rfl
        have n19 := n19'
        replace hI := hI'
        clear hk hI' n19'
        obtain ⟨act9, rfl⟩ : ∃ x, x = a' := ⟨_, rfl⟩
        refine rest_take (k := 16) (d := 3) (v := .bool true) hI rfl rfl (by kernel_rfl) (Nat.lt_of_le_of_lt (by decide) hsz) (by kernel_rfl) hpan (by kernel_rfl) hS (wanted_free rfl) (fun z hz => by have e19 := n19; have f19 := n19.eval; unfold At at e19; simp [go_sem, e19]) (fun a' hI' n3' hk => ?_)
        replace n10 := hk _ _ n10 rfl
        replace n11 := hk _ _ n11 rfl
        replace n12 := hk _ _ n12 rfl
        replace n13 := hk _ _ n13 rfl
        replace n14 := hk _ _ n14 rfl
        replace n15 := hk _ _ n15 rfl
        replace n16 := hk _ _ n16 rfl
        replace n17 := hk _ _ n17 rfl
        replace n18 := hk _ _ n18 rfl
        replace n19 := hk _ _ n19 rfl
        have n3 := n3'
        replace hI := hI'
        clear hk hI' n3'
        obtain ⟨act9, rfl⟩ : ∃ x, x = a' := ⟨_, rfl⟩
        refine rest_done (by kernel_rfl) ?_
        exact hfin _ _ hI n3 hq
      · refine rest_take (k := 5) (d := 9) (v := .bool false) hI rfl rfl (by kernel_rfl) (Nat.lt_of_le_of_lt (by decide) hsz) (by kernel_rfl) hpan (by kernel_rfl) hS (wanted_free rfl) (fun z hz => by have e8 := n8; have f8 := n8.eval; unfold At at e8; simp [go_sem, e8]) (fun a' hI' n9' hk => ?_)
        replace n8 := hk _ _ n8 rfl
        have n9 := n9'
        replace hI := hI'
        clear hk hI' n9'
        obtain ⟨act9, rfl⟩ : ∃ x, x = a' := ⟨_, rfl⟩
        refine rest_take (k := 6) (d := 10) (v := .bool false) hI rfl rfl (by kernel_rfl) (Nat.lt_of_le_of_lt (by decide) hsz) (by kernel_rfl) hpan (by kernel_rfl) hS (wanted_free rfl) (fun z hz => by have e9 := n9; have f9 := n9.eval; unfold At at e9; simp [go_sem, e9]) (fun a' hI' n10' hk => ?_)
        replace n8 := hk _ _ n8 rfl
        replace n9 := hk _ _ n9 rfl
        have n10 := n10'
        replace hI := hI'
        clear hk hI' n10'
        obtain ⟨act9, rfl⟩ : ∃ x, x = a' := ⟨_, rfl⟩
        clear n8
        clear n9
        refine rest_take (k := 7) (d := 11) (v := rollV r) hI rfl rfl (by kernel_rfl) (Nat.lt_of_le_of_lt (by decide) hsz) (by kernel_rfl) hpan (by kernel_rfl) hS (wanted_at rfl rfl (n10)) (fun z hz => by have n1 := hI.at m1 (by kernel_rfl); have e1 := n1; have f1 := n1.eval; unfold At at e1; have k0 := heap_cell hz.2 (j := 0) rfl; have k1 := heap_cell hz.2 (j := 1) rfl; have k2 := heap_cell hz.2 (j := 2) rfl; have k3 := heap_cell hz.2 (j := 3) rfl; have k4 := heap_cell hz.2 (j := 4) rfl; simp [go_sem, e1, k0, k1, k2, k3, k4]) (fun a' hI' n11' hk => ?_)
        replace n10 := hk _ _ n10 rfl
        have n11 := n11'
        replace hI := hI'
        clear hk hI' n11'
        obtain ⟨act9, rfl⟩ : ∃ x, x = a' := ⟨_, rfl⟩
        refine rest_take (k := 8) (d := 12) (v := .pointer (some ⟨w.heap.size, 1, none⟩)) hI rfl rfl (by kernel_rfl) (Nat.lt_of_le_of_lt (by decide) hsz) (by kernel_rfl) hpan (by kernel_rfl) hS (wanted_at rfl rfl (n10)) (fun z hz => by have n2 := hI.at m2 (by kernel_rfl); have e2 := n2; have f2 := n2.eval; unfold At at e2; simp [go_sem, e2]) (fun a' hI' n12' hk => ?_)
        replace n10 := hk _ _ n10 rfl
        replace n11 := hk _ _ n11 rfl
        have n12 := n12'
        replace hI := hI'
        clear hk hI' n12'
        obtain ⟨act9, rfl⟩ : ∃ x, x = a' := ⟨_, rfl⟩
        refine rest_take (k := 9) (d := 13) (v := thingV x.m1 x.p1 x.b1) hI rfl rfl (by kernel_rfl) (Nat.lt_of_le_of_lt (by decide) hsz) (by kernel_rfl) hpan (by kernel_rfl) hS (wanted_at rfl rfl (n10)) (fun z hz => by have e12 := n12; have f12 := n12.eval; unfold At at e12; have k1 := heap_cell hz.1 (j := 1) rfl; have k2 := heap_cell hz.1 (j := 2) rfl; have k3 := heap_cell hz.1 (j := 3) rfl; simp [go_sem, e12, k1, k2, k3]) (fun a' hI' n13' hk => ?_)
        replace n10 := hk _ _ n10 rfl
        replace n11 := hk _ _ n11 rfl
        replace n12 := hk _ _ n12 rfl
        have n13 := n13'
        replace hI := hI'
        clear hk hI' n13'
        obtain ⟨act9, rfl⟩ : ∃ x, x = a' := ⟨_, rfl⟩
        clear n12
        refine rest_take (k := 10) (d := 14) (v := .pointer (some ⟨w.heap.size, 4, none⟩)) hI rfl rfl (by kernel_rfl) (Nat.lt_of_le_of_lt (by decide) hsz) (by kernel_rfl) hpan (by kernel_rfl) hS (wanted_at rfl rfl (n10)) (fun z hz => by have n2 := hI.at m2 (by kernel_rfl); have e2 := n2; have f2 := n2.eval; unfold At at e2; simp [go_sem, e2]) (fun a' hI' n14' hk => ?_)
        replace n10 := hk _ _ n10 rfl
        replace n11 := hk _ _ n11 rfl
        replace n13 := hk _ _ n13 rfl
        have n14 := n14'
        replace hI := hI'
        clear hk hI' n14'
        obtain ⟨act9, rfl⟩ : ∃ x, x = a' := ⟨_, rfl⟩
        refine rest_take (k := 11) (d := 15) (v := thingV x.m2 x.p2 x.b2) hI rfl rfl (by kernel_rfl) (Nat.lt_of_le_of_lt (by decide) hsz) (by kernel_rfl) hpan (by kernel_rfl) hS (wanted_at rfl rfl (n10)) (fun z hz => by have e14 := n14; have f14 := n14.eval; unfold At at e14; have k4 := heap_cell hz.1 (j := 4) rfl; have k5 := heap_cell hz.1 (j := 5) rfl; have k6 := heap_cell hz.1 (j := 6) rfl; simp [go_sem, e14, k4, k5, k6]) (fun a' hI' n15' hk => ?_)
        replace n10 := hk _ _ n10 rfl
        replace n11 := hk _ _ n11 rfl
        replace n13 := hk _ _ n13 rfl
        replace n14 := hk _ _ n14 rfl
        have n15 := n15'
        replace hI := hI'
        clear hk hI' n15'
        obtain ⟨act9, rfl⟩ : ∃ x, x = a' := ⟨_, rfl⟩
        clear n14
        have hn1 := below_new v1 (.cells #[.int .i64 x.m1, .int .i64 x.p1, .bool x.b1, .int .i64 x.m2, .int .i64 x.p2, .bool x.b2] 32)
        have htw := things_two (heap_top v1 (.cells #[.int .i64 x.m1, .int .i64 x.p1, .bool x.b1, .int .i64 x.m2, .int .i64 x.p2, .bool x.b2] 32) rfl)
        have hq1 := below_thn hq hn1
        have hs1 := (And.intro (heap_lft hS.1 hn1) (heap_lft hS.2 hn1))
        obtain ⟨v2, hwe⟩ : ∃ y, v1.alloc (.cells #[.int .i64 x.m1, .int .i64 x.p1, .bool x.b1, .int .i64 x.m2, .int .i64 x.p2, .bool x.b2] 32) = y := ⟨_, rfl⟩
        rw [hwe] at hn1 htw hq1 hs1
        refine rest_only (k := 12) (by kernel_rfl) (op_value (k := 12) (d := 16) (v := .slice (some ⟨v1.heap.size, 0, none⟩) 2 2) hI rfl rfl (by kernel_rfl) (Nat.lt_of_le_of_lt (by decide) hsz) (wanted_at rfl rfl (n10)) (by have e13 := n13; have f13 := n13.eval; unfold At at e13; have e15 := n15; have f15 := n15.eval; unfold At at e15; simp [go_sem, e13, e15]; try rfl) (fun a' hI' n16' hk => ⟨by rw [hwe]; exact hs1, ?_⟩))
        replace n10 := hk _ _ n10 rfl
        replace n11 := hk _ _ n11 rfl
        replace n13 := hk _ _ n13 rfl
        replace n15 := hk _ _ n15 rfl
        have n16 := n16'
        replace hI := hI'
        clear hk hI' n16'
        obtain ⟨act9, rfl⟩ : ∃ x, x = a' := ⟨_, rfl⟩
        rw [hwe]
        replace hS := hs1
        replace hq := hq1
        clear hwe hs1 hq1 hn1
        clear n13
        clear n15
        refine rest_only (k := 13) (by kernel_rfl) (op_call (k := 13) (d := 17) (R := fun v w' => v = .int .i64 (Pure.err (!r2) 92) ∧ Below v2.heap.size v2 w') hI rfl rfl (by kernel_rfl) (Nat.lt_of_le_of_lt (by decide) hsz) (wanted_at rfl rfl (n10)) ((checkThings_any r d _ 2 2 _ _ _ hN (by omega) _ (HRA.out.below hq) htw).mono fun e w' g => ⟨_, g.1.trans (by rw [Pure.two_bad, HR2.out]), rfl, g.2⟩) (by have e11 := n11; have f11 := n11.eval; unfold At at e11; have e16 := n16; have f16 := n16.eval; unfold At at e16; simp [go_sem, e11, e16]) ?_)
        intro v w' a' hR' hI' n17' hk
        obtain ⟨rfl, hb⟩ := hR'
        refine ⟨(And.intro (heap_lft hS.1 hb) (heap_lft hS.2 hb)), ?_⟩
        replace n10 := hk _ _ n10 rfl
        replace n11 := hk _ _ n11 rfl
        replace n16 := hk _ _ n16 rfl
        have n17 := n17'
        replace hI := hI'
        clear hk hI' n17'
        obtain ⟨act9, rfl⟩ : ∃ x, x = a' := ⟨_, rfl⟩
        replace hS : w'.heap[w.heap.size]? = some (tnoteB x) ∧ w'.heap[B]? = some (rollB r) := (And.intro (heap_lft hS.1 hb) (heap_lft hS.2 hb))
        replace hq := below_thn hq hb
        clear hb htw
        obtain ⟨v3, rfl⟩ : ∃ y, y = w' := ⟨_, rfl⟩
        clear n11
        clear n16
        cases r2
        · refine rest_take (k := 14) (d := 18) (v := .bool false) hI rfl rfl (by kernel_rfl) (Nat.lt_of_le_of_lt (by decide) hsz) (by kernel_rfl) hpan (by kernel_rfl) hS (wanted_at rfl rfl (n10)) (fun z hz => by have e17 := n17; have f17 := n17.eval; unfold At at e17; simp [go_sem, e17, Pure.err]) (fun a' hI' n18' hk => ?_)
          replace n10 := hk _ _ n10 rfl
          replace n17 := hk _ _ n17 rfl
          have n18 := n18'
          replace hI := hI'
          clear hk hI' n18'
          obtain ⟨act9, rfl⟩ : ∃ x, x = a' := ⟨_, rfl⟩
          refine rest_take (k := 15) (d := 19) (v := .bool false) hI rfl rfl (by kernel_rfl) (Nat.lt_of_le_of_lt (by decide) hsz) (by kernel_rfl) hpan (by kernel_rfl) hS (wanted_free rfl) (fun z hz => by have e10 := n10; have f10 := n10.eval; unfold At at e10; have e18 := n18; have f18 := n18.eval; unfold At at e18; simp [go_sem, e10, e18]) (fun a' hI' n19' hk => ?_)
          replace n10 := hk _ _ n10 rfl
          replace n17 := hk _ _ n17 rfl
          replace n18 := hk _ _ n18 rfl
          have n19 := n19'
          replace hI := hI'
          clear hk hI' n19'
          obtain ⟨act9, rfl⟩ : ∃ x, x = a' := ⟨_, rfl⟩
          refine rest_take (k := 16) (d := 3) (v := .bool false) hI rfl rfl (by kernel_rfl) (Nat.lt_of_le_of_lt (by decide) hsz) (by kernel_rfl) hpan (by kernel_rfl) hS (wanted_free rfl) (fun z hz => by have e19 := n19; have f19 := n19.eval; unfold At at e19; simp [go_sem, e19]) (fun a' hI' n3' hk => ?_)
          replace n10 := hk _ _ n10 rfl
          replace n17 := hk _ _ n17 rfl
          replace n18 := hk _ _ n18 rfl
          replace n19 := hk _ _ n19 rfl
          have n3 := n3'
          replace hI := hI'
          clear hk hI' n3'
          obtain ⟨act9, rfl⟩ : ∃ x, x = a' := ⟨_, rfl⟩
          refine rest_done (by kernel_rfl) ?_
          exact hfin _ _ hI n3 hq
        · refine rest_take (k := 14) (d := 18) (v := .bool true) hI rfl rfl (by kernel_rfl) (Nat.lt_of_le_of_lt (by decide) hsz) (by kernel_rfl) hpan (by kernel_rfl) hS (wanted_at rfl rfl (n10)) (fun z hz => by have e17 := n17; have f17 := n17.eval; unfold At at e17; simp [go_sem, e17, Pure.err]) (fun a' hI' n18' hk => ?_)
          replace n10 := hk _ _ n10 rfl
          replace n17 := hk _ _ n17 rfl
          have n18 := n18'
          replace hI := hI'
          clear hk hI' n18'
          obtain ⟨act9, rfl⟩ : ∃ x, x = a' := ⟨_, rfl⟩
          refine rest_take (k := 15) (d := 19) (v := .bool true) hI rfl rfl (by kernel_rfl) (Nat.lt_of_le_of_lt (by decide) hsz) (by kernel_rfl) hpan (by kernel_rfl) hS (wanted_free rfl) (fun z hz => by have e10 := n10; have f10 := n10.eval; unfold At at e10; have e18 := n18; have f18 := n18.eval; unfold At at e18; simp [go_sem, e10, e18]) (fun a' hI' n19' hk => ?_)
          replace n10 := hk _ _ n10 rfl
          replace n17 := hk _ _ n17 rfl
          replace n18 := hk _ _ n18 rfl
          have n19 := n19'
          replace hI := hI'
          clear hk hI' n19'
          obtain ⟨act9, rfl⟩ : ∃ x, x = a' := ⟨_, rfl⟩
          refine rest_take (k := 16) (d := 3) (v := .bool true) hI rfl rfl (by kernel_rfl) (Nat.lt_of_le_of_lt (by decide) hsz) (by kernel_rfl) hpan (by kernel_rfl) hS (wanted_free rfl) (fun z hz => by have e19 := n19; have f19 := n19.eval; unfold At at e19; simp [go_sem, e19]) (fun a' hI' n3' hk => ?_)
          replace n10 := hk _ _ n10 rfl
          replace n17 := hk _ _ n17 rfl
          replace n18 := hk _ _ n18 rfl
          replace n19 := hk _ _ n19 rfl
          have n3 := n3'
          replace hI := hI'
          clear hk hI' n3'
          obtain ⟨act9, rfl⟩ : ∃ x, x = a' := ⟨_, rfl⟩
          refine rest_done (by kernel_rfl) ?_
          exact hfin _ _ hI n3 hq
    rw [hR]
    refine rest_split [0, 3] (by kernel_rfl) rfl (fun i9 hi9 => ?_)
    have hi9' : i9 = 0 ∨ i9 = 3 := by simpa using hi9
    clear hi9
    rcases hi9' with rfl | rfl
    · refine _root_.id (op_call (k := 0) (d := 4) (R := fun v w' => v = spanV 1 9999 ∧ Below wz.heap.size wz w') hI rfl rfl (by kernel_rfl) (Nat.lt_of_le_of_lt (by decide) hsz) (wanted_free rfl) ((tids_any _).mono fun e w' g => ⟨_, g.1, rfl, g.2⟩) (by simp [go_sem]) ?_)
      intro v w' a' hR' hI' n4' hk
      obtain ⟨rfl, hb⟩ := hR'
      refine ⟨(And.intro (heap_lft hS.1 hb) (heap_lft hS.2 hb)), ?_⟩
      replace n6 := hk _ _ n6 rfl
      have n4 := n4'
      replace hI := hI'
      clear hk hI' n4'
      obtain ⟨act9, rfl⟩ : ∃ x, x = a' := ⟨_, rfl⟩
      replace hS : w'.heap[w.heap.size]? = some (tnoteB x) ∧ w'.heap[B]? = some (rollB r) := (And.intro (heap_lft hS.1 hb) (heap_lft hS.2 hb))
      replace hq := below_thn hq hb
      clear hb
      obtain ⟨u1, rfl⟩ : ∃ y, y = w' := ⟨_, rfl⟩
      have hn1 := below_new u1 (.cells #[.int .i64 x.n] 3)
      have hcb := first_cell u1 (.int .i64 x.n) 3 rfl
      have hq1 := below_thn hq hn1
      have hs1 := (And.intro (heap_lft hS.1 hn1) (heap_lft hS.2 hn1))
      obtain ⟨u2, hwe⟩ : ∃ y, u1.alloc (.cells #[.int .i64 x.n] 3) = y := ⟨_, rfl⟩
      rw [hwe] at hn1 hcb hq1 hs1
      refine rest_only (k := 3) (by kernel_rfl) (op_value (k := 3) (d := 7) (v := .slice (some ⟨u1.heap.size, 0, none⟩) 1 1) hI rfl rfl (by kernel_rfl) (Nat.lt_of_le_of_lt (by decide) hsz) (wanted_free rfl) (by have e6 := n6; have f6 := n6.eval; unfold At at e6; simp [go_sem, e6]; try rfl) (fun a' hI' n7' hk => ⟨by rw [hwe]; exact hs1, ?_⟩))
      replace n6 := hk _ _ n6 rfl
      replace n4 := hk _ _ n4 rfl
      have n7 := n7'
      replace hI := hI'
      clear hk hI' n7'
      obtain ⟨act9, rfl⟩ : ∃ x, x = a' := ⟨_, rfl⟩
      rw [hwe]
      replace hS := hs1
      replace hq := hq1
      clear hwe hs1 hq1 hn1
      rw [← hR]
      exact tl _ _ _ hI n4 n7 hq hcb
    · have hn1 := below_new wz (.cells #[.int .i64 x.n] 3)
      have hcb := first_cell wz (.int .i64 x.n) 3 rfl
      have hq1 := below_thn hq hn1
      have hs1 := (And.intro (heap_lft hS.1 hn1) (heap_lft hS.2 hn1))
      obtain ⟨u1, hwe⟩ : ∃ y, wz.alloc (.cells #[.int .i64 x.n] 3) = y := ⟨_, rfl⟩
      rw [hwe] at hn1 hcb hq1 hs1
      refine _root_.id (op_value (k := 3) (d := 7) (v := .slice (some ⟨wz.heap.size, 0, none⟩) 1 1) hI rfl rfl (by kernel_rfl) (Nat.lt_of_le_of_lt (by decide) hsz) (wanted_free rfl) (by have e6 := n6; have f6 := n6.eval; unfold At at e6; simp [go_sem, e6]; try rfl) (fun a' hI' n7' hk => ⟨by rw [hwe]; exact hs1, ?_⟩))
      replace n6 := hk _ _ n6 rfl
      have n7 := n7'
      replace hI := hI'
      clear hk hI' n7'
      obtain ⟨act9, rfl⟩ : ∃ x, x = a' := ⟨_, rfl⟩
      rw [hwe]
      replace hS := hs1
      replace hq := hq1
      clear hwe hs1 hq1 hn1
      refine rest_only (k := 0) (by kernel_rfl) (op_call (k := 0) (d := 4) (R := fun v w' => v = spanV 1 9999 ∧ Below u1.heap.size u1 w') hI rfl rfl (by kernel_rfl) (Nat.lt_of_le_of_lt (by decide) hsz) (wanted_free rfl) ((tids_any _).mono fun e w' g => ⟨_, g.1, rfl, g.2⟩) (by simp [go_sem]) ?_)
      intro v w' a' hR' hI' n4' hk
      obtain ⟨rfl, hb⟩ := hR'
      refine ⟨(And.intro (heap_lft hS.1 hb) (heap_lft hS.2 hb)), ?_⟩
      replace n6 := hk _ _ n6 rfl
      replace n7 := hk _ _ n7 rfl
      have n4 := n4'
      replace hI := hI'
      clear hk hI' n4'
      obtain ⟨act9, rfl⟩ : ∃ x, x = a' := ⟨_, rfl⟩
      replace hq := below_thn hq hb
      replace hcb := below_cell hb hcb
      refine Rest.same (d' := [3, 0, 2, 1]) ?_ (by kernel_rfl)
      rw [← hR]
      exact tl _ _ _ hI n4 n7 hq hcb
  case rest =>
    obtain ⟨U, rfl⟩ : ∃ x, x = wc := ⟨_, rfl⟩
    obtain ⟨rfl, hb⟩ := hcut
    have HB2 := Lib.hid (below_thn HB.out hb)
    clear hb
    go_wp2_with fail
    go_ret
    exact ⟨rfl, HB2.out⟩


end Go.Proofs.YtijfdfplebbaaaaGreat
