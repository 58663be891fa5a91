/-
  The contracts of the specification's Twin, and of its Same and SameInts at equal contents.
-/
import Derived.Test.YtijfdfplebbaaaaGreatQPair
namespace Go.Proofs.YtijfdfplebbaaaaGreat
open Go.RowKit

/-- What a copy gives. -/
def CopiedOut (n : Nat) (F : Nat → Int) (m : Nat) (G : Nat → Int) (w : World) (e : Ending) (w' : World) : Prop :=
  ∃ a1 c1 a2 c2, e = .returned (pressV a1 n c1 a2 m c2) ∧ OwnNums w' w.heap.size 49 4 a1 n c1 F ∧ OwnNums w' w.heap.size 53 5 a2 m c2 G ∧ Below w.heap.size w w'

set_option maxHeartbeats 8000000 in
set_option maxRecDepth 100000 in
theorem twin_any (a : Option Addr) (n c : Nat) (b : Option Addr) (m d : Nat) (F G : Nat → Int) (hn : n ≤ 60) (hm : m ≤ 60) (hna : a = none → n = 0) (hnb : b = none → m = 0) (w : World) (hF : NumsAt w a (n * 4) F) (hG : NumsAt w b (m * 5) G) :
    Calls Tryz.prog 13 #[pressV a n c b m d] w (CopiedOut n F m G w) := by
  obtain ⟨W, hW⟩ : ∃ W, (w.alloc (pressB a n c b m d)).alloc (pressB none 0 0 none 0 0) = W := ⟨_, rfl⟩
  have HB : Hid (Below w.heap.size w W) := Lib.hid (by rw [← hW]; exact (below_new _ _).alloc (by simp) _)
  have HX : Hid (W.heap[w.heap.size]? = some (pressB a n c b m d)) := Lib.hid (by rw [← hW]; exact heap_up (heap_top _ _ rfl) _)
  have HY : Hid (W.heap[w.heap.size + 1]? = some (pressB none 0 0 none 0 0)) := Lib.hid (by rw [← hW]; exact heap_top _ _ (by simp))
  have HSZ : Hid (W.heap.size = w.heap.size + 2) := Lib.hid (by rw [← hW]; simp)
  have HF := Lib.hid (hF.below HB.out)
  have HG := Lib.hid (hG.below HB.out)
  have HNA := Lib.hid hna
  have HNB := Lib.hid hnb
  clear hF hG hna hnb
  go_enter Tryz.func13, Tryz.ntmps13
  go_upto_region 1 with fail
  try rw [hW]
  clear hW
  go_cut [] from 3 to 11 (fun wx => ∃ a1 c1 a2 c2, wx.heap[w.heap.size + 1]? = some (pressB a1 n c1 a2 m c2) ∧ OwnNums wx W.heap.size 49 4 a1 n c1 F ∧ OwnNums wx W.heap.size 53 5 a2 m c2 G ∧ Below w.heap.size w wx)
  case first =>
    rename_i J K' hJ hK'
    generalize hA : (Act.mk _ _ : Act) = a0
    have m1 : At a0 1 (.pointer (some ⟨w.heap.size, 0, none⟩)) := by rw [← hA]; rfl
    have m2 : At a0 2 (.pointer (some ⟨w.heap.size + 1, 0, none⟩)) := by rw [← hA]; rfl
    have hsz : 11 < a0.tmps.size := by rw [← hA]; exact of_decide_eq_true (by kernel_rfl)
    have hfin : ∀ a' w', Kept (List.range' 3 9) a0 a' → (∃ a1 c1 a2 c2, w'.heap[w.heap.size + 1]? = some (pressB a1 n c1 a2 m c2) ∧ OwnNums w' W.heap.size 49 4 a1 n c1 F ∧ OwnNums w' W.heap.size 53 5 a2 m c2 G ∧ Below w.heap.size w w') → K' a' w' := by
      intro a' w' hI hL
      refine hK' _ _ (Met.intro (hJ _ _ ⟨a'.tmps.getD 3 undef, a'.tmps.getD 4 undef, a'.tmps.getD 5 undef, a'.tmps.getD 6 undef, a'.tmps.getD 7 undef, a'.tmps.getD 8 undef, a'.tmps.getD 9 undef, a'.tmps.getD 10 undef, a'.tmps.getD 11 undef, hL, hI.eq.trans ?_⟩))
      rw [← hA]
      kernel_rfl
    have hI : Kept (List.range' 3 9) a0 a0 := Kept.refl _ _
    clear hA hJ hK' J
    refine with_pan (fun d _ _ _ _ h => by cases d <;> exact h) ?_
    intro hpan
    refine wp_region_rest (fun z => z.heap[w.heap.size]? = some (pressB a n c b m d)) (by kernel_rfl) ?_
    obtain ⟨wz, hwz⟩ : ∃ x, W.drew = x := ⟨_, rfl⟩
    change Rest _ _ _ _ _ _ _ (W.drew)
    rw [hwz]
    have hq : Below W.heap.size W wz := by rw [← hwz]; exact (Below.refl _ _).drew
    clear hwz
    have hS := heap_lft HX.out hq
    refine rest_take (k := 1) (d := 4) (v := .pointer (some ⟨w.heap.size, 0, none⟩)) hI rfl rfl (by kernel_rfl) (Nat.lt_of_le_of_lt (by decide) hsz) (by kernel_rfl) hpan (by kernel_rfl) hS (wanted_free rfl) (fun z hz => by have n1 := hI.at m1 (by kernel_rfl); have e1 := n1; have f1 := n1.eval; unfold At at e1; simp [go_sem, e1]) (fun a' hI' n4' hk => ?_)
    have n4 := n4'
    replace hI := hI'
    clear hk hI' n4'
    obtain ⟨act9, rfl⟩ : ∃ x, x = a' := ⟨_, rfl⟩
    refine rest_take (k := 2) (d := 5) (v := .slice a n c) hI rfl rfl (by kernel_rfl) (Nat.lt_of_le_of_lt (by decide) hsz) (by kernel_rfl) hpan (by kernel_rfl) hS (wanted_free rfl) (fun z hz => by have e4 := n4; have f4 := n4.eval; unfold At at e4; have k0 := heap_cell hz (j := 0) rfl; simp [go_sem, e4, k0]) (fun a' hI' n5' hk => ?_)
    replace n4 := hk _ _ n4 rfl
    have n5 := n5'
    replace hI := hI'
    clear hk hI' n5'
    obtain ⟨act9, rfl⟩ : ∃ x, x = a' := ⟨_, rfl⟩
    clear n4
    refine rest_take (k := 5) (d := 8) (v := .pointer (some ⟨w.heap.size, 1, none⟩)) hI rfl rfl (by kernel_rfl) (Nat.lt_of_le_of_lt (by decide) hsz) (by kernel_rfl) hpan (by kernel_rfl) hS (wanted_free rfl) (fun z hz => by have n1 := hI.at m1 (by kernel_rfl); have e1 := n1; have f1 := n1.eval; unfold At at e1; simp [go_sem, e1]) (fun a' hI' n8' hk => ?_)
    replace n5 := hk _ _ n5 rfl
    have n8 := n8'
    replace hI := hI'
    clear hk hI' n8'
    obtain ⟨act9, rfl⟩ : ∃ x, x = a' := ⟨_, rfl⟩
    refine rest_take (k := 6) (d := 9) (v := .slice b m d) hI rfl rfl (by kernel_rfl) (Nat.lt_of_le_of_lt (by decide) hsz) (by kernel_rfl) hpan (by kernel_rfl) hS (wanted_free rfl) (fun z hz => by have e8 := n8; have f8 := n8.eval; unfold At at e8; have k1 := heap_cell hz (j := 1) rfl; simp [go_sem, e8, k1]) (fun a' hI' n9' hk => ?_)
    replace n5 := hk _ _ n5 rfl
    replace n8 := hk _ _ n8 rfl
    have n9 := n9'
    replace hI := hI'
    clear hk hI' n9'
    obtain ⟨act9, rfl⟩ : ∃ x, x = a' := ⟨_, rfl⟩
    clear n8
    obtain ⟨i1, hi1, hz11, hz12, hz13⟩ := infoRing
    obtain ⟨i2, hi2, hz21, hz22, hz23⟩ := infoNote
    refine rest_name (fun R hR => ?_)
    have s22 : ∀ ac wo, PairSt (List.range' 3 9) a0 W [(5, .slice a n c), (9, .slice b m d)] 49 4 F true 6 (n) 53 5 G true 10 (m) ac wo → R 2 [6, 5, 2, 1, 0, 3, 4, 7] ac wo := by
      intro ac wo hst
      rw [hR]
      obtain ⟨a1, c1, n6, o1⟩ := hst.r1 rfl
      obtain ⟨a2, c2, n10, o2⟩ := hst.r2 rfl
      have hI := hst.kept
      have hS := heap_lft HX.out hst.below
      have hyo := heap_lft HY.out hst.below
      have hsz2 := HSZ.out
      refine rest_take (k := 8) (d := 11) (v := pressV a1 n c1 a2 m c2) hI rfl rfl (by kernel_rfl) (Nat.lt_of_le_of_lt (by decide) hsz) (by kernel_rfl) hpan (by kernel_rfl) hS (wanted_free rfl) (fun z hz => by have e6 := n6; have f6 := n6.eval; unfold At at e6; have e10 := n10; have f10 := n10.eval; unfold At at e10; simp [go_sem, e6, e10]) (fun a' hI' n11' hk => ?_)
      replace n6 := hk _ _ n6 rfl
      replace n10 := hk _ _ n10 rfl
      have n11 := n11'
      replace hI := hI'
      clear hk hI' n11'
      obtain ⟨act9, rfl⟩ : ∃ x, x = a' := ⟨_, rfl⟩
      obtain ⟨Z, hZ⟩ : ∃ Z, (wo.setCell ⟨w.heap.size + 1, 0, none⟩ (.slice a1 n c1)).setCell ⟨w.heap.size + 1, 1, none⟩ (.slice a2 m c2) = Z := ⟨_, rfl⟩
      have hyZ : Z.heap[w.heap.size + 1]? = some (pressB a1 n c1 a2 m c2) := by rw [← hZ]; exact heap_set (heap_set hyo 0 _) 1 _
      have hSZ : Z.heap[w.heap.size]? = some (pressB a n c b m d) := by rw [← hZ]; exact (setCell_other (by simp)).trans ((setCell_other (by simp)).trans hS)
      have h1Z : OwnNums Z W.heap.size 49 4 a1 n c1 F := by rw [← hZ]; exact (o1.set (by dsimp only; omega) _).set (by dsimp only; omega) _
      have h2Z : OwnNums Z W.heap.size 53 5 a2 m c2 G := by rw [← hZ]; exact (o2.set (by dsimp only; omega) _).set (by dsimp only; omega) _
      have hbZ : Below w.heap.size w Z := by rw [← hZ]; exact ((below_thn HB.out hst.below).setCell (by dsimp only; omega) _).setCell (by dsimp only; omega) _
      refine rest_only (k := 9) (by kernel_rfl) (op_store (k := 9) rfl rfl (wanted_free rfl) (by have n2 := hI.at m2 (by kernel_rfl); have e2 := n2; have f2 := n2.eval; unfold At at e2; have e11 := n11; have f11 := n11.eval; unfold At at e11; have k0 := heap_cell hyo (j := 0) rfl; have k1 := heap_cell hyo (j := 1) rfl; have f0 := heap_frozen hyo 0; have f1 := heap_frozen hyo 1; simp [go_sem, e2, e11, k0, k1, f0, f1]; try rfl) ⟨by rw [hZ]; exact hSZ, ?_⟩)
      refine rest_done (by kernel_rfl) ?_
      rw [hZ]
      exact hfin _ _ hI ⟨a1, c1, a2, c2, hyZ, h1Z, h2Z, hbZ⟩
    have s21 : ∀ ac wo, PairSt (List.range' 3 9) a0 W [(5, .slice a n c), (9, .slice b m d)] 49 4 F true 6 (n) 53 5 G true 7 (0) ac wo → R 3 [6, 5, 2, 1, 0, 3, 4] ac wo := by
      intro ac wo hst
      rw [hR]
      refine rest_split [7] (by kernel_rfl) rfl (fun i9 hi9 => ?_)
      have hi9' : i9 = 7 := by simpa using hi9
      clear hi9
      rcases hi9' with rfl
      · exact pair_app (i := 7) (xs := 9) Tryz.underlying23 hi2 hz21 hz22 hz23 rfl (by decide) (by decide) (by decide) rfl rfl rfl rfl (by kernel_rfl) (Nat.lt_of_le_of_lt (by decide) hsz) (by kernel_rfl) rfl hst.swap (hst.fix (9, .slice b m d) (by simp)) (HG.out.below hst.below) HNB.out (by omega) (fun a' w' hst' => ⟨heap_lft HX.out hst'.below, Rest.same (d' := [6, 5, 2, 1, 0, 3, 4, 7]) (by rw [← hR]; exact s22 a' w' hst'.swap) (by kernel_rfl)⟩)
    have s20 : ∀ ac wo, PairSt (List.range' 3 9) a0 W [(5, .slice a n c), (9, .slice b m d)] 49 4 F true 6 (n) 53 5 G false 7 (0) ac wo → R 4 [6, 5, 2, 1, 0, 3] ac wo := by
      intro ac wo hst
      rw [hR]
      refine rest_split [4] (by kernel_rfl) rfl (fun i9 hi9 => ?_)
      have hi9' : i9 = 4 := by simpa using hi9
      clear hi9
      rcases hi9' with rfl
      · exact pair_start (i := 4) rfl rfl rfl (by kernel_rfl) (Nat.lt_of_le_of_lt (by decide) hsz) (by kernel_rfl) rfl hst.swap (by simp [go_sem]; try rfl) (fun a' w' hst' => ⟨heap_lft HX.out hst'.below, Rest.same (d' := [6, 5, 2, 1, 0, 3, 4]) (by rw [← hR]; exact s21 a' w' hst'.swap) (by kernel_rfl)⟩)
    have s11 : ∀ ac wo, PairSt (List.range' 3 9) a0 W [(5, .slice a n c), (9, .slice b m d)] 49 4 F true 3 (0) 53 5 G true 7 (0) ac wo → R 4 [6, 5, 2, 1, 0, 4] ac wo := by
      intro ac wo hst
      rw [hR]
      refine rest_split [3] (by kernel_rfl) rfl (fun i9 hi9 => ?_)
      have hi9' : i9 = 3 := by simpa using hi9
      clear hi9
      rcases hi9' with rfl
      · exact pair_app (i := 3) (xs := 5) Tryz.underlying22 hi1 hz11 hz12 hz13 rfl (by decide) (by decide) (by decide) rfl rfl rfl rfl (by kernel_rfl) (Nat.lt_of_le_of_lt (by decide) hsz) (by kernel_rfl) rfl hst (hst.fix (5, .slice a n c) (by simp)) (HF.out.below hst.below) HNA.out (by omega) (fun a' w' hst' => ⟨heap_lft HX.out hst'.below, Rest.same (d' := [6, 5, 2, 1, 0, 3, 4]) (by rw [← hR]; exact s21 a' w' hst') (by kernel_rfl)⟩)
    have s10 : ∀ ac wo, PairSt (List.range' 3 9) a0 W [(5, .slice a n c), (9, .slice b m d)] 49 4 F true 3 (0) 53 5 G false 7 (0) ac wo → R 5 [6, 5, 2, 1, 0] ac wo := by
      intro ac wo hst
      rw [hR]
      refine rest_split [3, 4] (by kernel_rfl) rfl (fun i9 hi9 => ?_)
      have hi9' : i9 = 3 ∨ i9 = 4 := by simpa using hi9
      clear hi9
      rcases hi9' with rfl | rfl
      · exact pair_app (i := 3) (xs := 5) Tryz.underlying22 hi1 hz11 hz12 hz13 rfl (by decide) (by decide) (by decide) rfl rfl rfl rfl (by kernel_rfl) (Nat.lt_of_le_of_lt (by decide) hsz) (by kernel_rfl) rfl hst (hst.fix (5, .slice a n c) (by simp)) (HF.out.below hst.below) HNA.out (by omega) (fun a' w' hst' => ⟨heap_lft HX.out hst'.below, Rest.same (d' := [6, 5, 2, 1, 0, 3]) (by rw [← hR]; exact s20 a' w' hst') (by kernel_rfl)⟩)
      · exact pair_start (i := 4) rfl rfl rfl (by kernel_rfl) (Nat.lt_of_le_of_lt (by decide) hsz) (by kernel_rfl) rfl hst.swap (by simp [go_sem]; try rfl) (fun a' w' hst' => ⟨heap_lft HX.out hst'.below, Rest.same (d' := [6, 5, 2, 1, 0, 4]) (by rw [← hR]; exact s11 a' w' hst'.swap) (by kernel_rfl)⟩)
    have s01 : ∀ ac wo, PairSt (List.range' 3 9) a0 W [(5, .slice a n c), (9, .slice b m d)] 49 4 F false 3 (0) 53 5 G true 7 (0) ac wo → R 5 [6, 5, 2, 1, 4] ac wo := by
      intro ac wo hst
      rw [hR]
      refine rest_split [0] (by kernel_rfl) rfl (fun i9 hi9 => ?_)
      have hi9' : i9 = 0 := by simpa using hi9
      clear hi9
      rcases hi9' with rfl
      · exact pair_start (i := 0) rfl rfl rfl (by kernel_rfl) (Nat.lt_of_le_of_lt (by decide) hsz) (by kernel_rfl) rfl hst (by simp [go_sem]; try rfl) (fun a' w' hst' => ⟨heap_lft HX.out hst'.below, Rest.same (d' := [6, 5, 2, 1, 0, 4]) (by rw [← hR]; exact s11 a' w' hst') (by kernel_rfl)⟩)
    have s00 : ∀ ac wo, PairSt (List.range' 3 9) a0 W [(5, .slice a n c), (9, .slice b m d)] 49 4 F false 3 (0) 53 5 G false 7 (0) ac wo → R 6 [6, 5, 2, 1] ac wo := by
      intro ac wo hst
      rw [hR]
      refine rest_split [0, 4] (by kernel_rfl) rfl (fun i9 hi9 => ?_)
      have hi9' : i9 = 0 ∨ i9 = 4 := by simpa using hi9
      clear hi9
      rcases hi9' with rfl | rfl
      · exact pair_start (i := 0) rfl rfl rfl (by kernel_rfl) (Nat.lt_of_le_of_lt (by decide) hsz) (by kernel_rfl) rfl hst (by simp [go_sem]; try rfl) (fun a' w' hst' => ⟨heap_lft HX.out hst'.below, Rest.same (d' := [6, 5, 2, 1, 0]) (by rw [← hR]; exact s10 a' w' hst') (by kernel_rfl)⟩)
      · exact pair_start (i := 4) rfl rfl rfl (by kernel_rfl) (Nat.lt_of_le_of_lt (by decide) hsz) (by kernel_rfl) rfl hst.swap (by simp [go_sem]; try rfl) (fun a' w' hst' => ⟨heap_lft HX.out hst'.below, Rest.same (d' := [6, 5, 2, 1, 4]) (by rw [← hR]; exact s01 a' w' hst'.swap) (by kernel_rfl)⟩)
    exact s00 _ _ ⟨hI, List.forall_mem_cons.2 ⟨n5, List.forall_mem_cons.2 ⟨n9, fun _ h => by cases h⟩⟩, hq, (fun h => by cases h), (fun h => by cases h)⟩
  case rest =>
    obtain ⟨U, rfl⟩ : ∃ x, x = wc := ⟨_, rfl⟩
    obtain ⟨a1, c1, a2, c2, hy, h1, h2, hb⟩ := hcut
    have y0 := heap_cell hy (j := 0) rfl
    have y1 := heap_cell hy (j := 1) rfl
    have H1 := Lib.hid h1
    have H2 := Lib.hid h2
    have HBU := Lib.hid hb
    clear h1 h2 hb
    go_wp2_with fail
    have hsz := HSZ.out
    exact bodyPost_ret (v := pressV a1 n c1 a2 m c2) (by simp [results, Tryz.results13, go_sem, y0, y1]; try rfl) rfl ⟨a1, c1, a2, c2, rfl, OwnNums.base H1.out (by omega), OwnNums.base H2.out (by omega), HBU.out⟩

end Go.Proofs.YtijfdfplebbaaaaGreat
