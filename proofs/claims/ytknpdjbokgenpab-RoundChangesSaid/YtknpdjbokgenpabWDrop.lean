/-
  The contract of the program's Drop.
-/
import Derived.Test.YtknpdjbokgenpabWPut
namespace Go.Proofs.Ytknpdjbokgenpab
open Go.RowKit

/-- What dropping a rick gives. -/
def DropOut (h : Int) (n : Nat) (F : Nat → Int) (id : Int) (w : World) (x : Ending) (w' : World) : Prop :=
  ∃ hh aa nn cc code, x = .returned (.tuple #[watchV hh aa nn cc, .int .i64 code]) ∧ Below w.heap.size w w' ∧
    ((Pure.watch h n F = false ∧ (hh = 0 ∧ aa = none ∧ nn = 0 ∧ cc = 0) ∧ code = 70) ∨ (Pure.watch h n F = true ∧ Pure.rickAt n F id = -1 ∧ (hh = 0 ∧ aa = none ∧ nn = 0 ∧ cc = 0) ∧ code = 6) ∨
     (Pure.watch h n F = true ∧ ∃ k : Nat, k < n ∧ Pure.rickAt n F id = k ∧ code = 0 ∧ hh = h ∧ nn = n - 1 ∧ OwnNums w' w.heap.size 26 3 aa (n - 1) cc (Pure.delF F k)))

set_option maxHeartbeats 8000000 in
set_option maxRecDepth 100000 in
theorem drop_any (h : Int) (a : Option Addr) (n c : Nat) (F : Nat → Int) (id : Int) (hn : n ≤ 20) (hnil : a = none → n = 0 ∧ c = 0) (w : World) (hF : NumsAt w a (n * 3) F) :
    Calls Try.prog 8 #[watchV h a n c, .int .i64 id] w (DropOut h n F id w) := by
  obtain ⟨W, hW⟩ : ∃ W, (w.alloc (watchB h a n c)).alloc (watchB 0 none 0 0) = W := ⟨_, rfl⟩
  have HB : Hid (Below w.heap.size w W) := Lib.hid (by rw [← hW]; exact (below_new _ _).alloc (by simp) _)
  have HX : Hid (W.heap[w.heap.size]? = some (watchB h a n c)) := Lib.hid (by rw [← hW]; exact heap_up (heap_top _ _ rfl) _)
  have HY : Hid (W.heap[w.heap.size + 1]? = some (watchB 0 none 0 0)) := Lib.hid (by rw [← hW]; exact heap_top _ _ (by simp))
  have HSZ : Hid (W.heap.size = w.heap.size + 2) := Lib.hid (by rw [← hW]; simp)
  have HP := Lib.hid (hF.below HB.out)
  have HZ := Lib.hid hnil
  clear hF hnil
  obtain ⟨q, hq⟩ : ∃ q, (if Pure.err (Pure.watch h n F) 70 = 0 then Pure.err (decide (0 ≤ Pure.rickAt n F id)) 6 else Pure.err (Pure.watch h n F) 70) = q := ⟨_, rfl⟩
  have HQ := Lib.hid hq
  clear hq
  go_enter Try.func8, Try.ntmps8
  go_upto_region 1 with fail
  try rw [hW]
  clear hW
  go_cut [6] from 8 to 14 (fun s wx => s = .int .i64 q ∧ Below W.heap.size W wx)
  case first =>
    rename_i J K' hJ hK'
    generalize hA : (Act.mk _ _ : Act) = a0
    have m1 : At a0 1 (.int .i64 id) := by rw [← hA]; rfl
    have m2 : At a0 2 (.pointer (some ⟨w.heap.size, 0, none⟩)) := by rw [← hA]; rfl
    have hsz : 14 < a0.tmps.size := by rw [← hA]; exact of_decide_eq_true (by kernel_rfl)
    have hfin : ∀ a' w', Kept (6 :: List.range' 8 7) a0 a' → At a' 6 (.int .i64 q) → (Below W.heap.size W w') → K' a' w' := by
      intro a' w' hI hv6 hL
      refine hK' _ _ (Met.intro (hJ _ _ ⟨a'.tmps.getD 6 undef, a'.tmps.getD 8 undef, a'.tmps.getD 9 undef, a'.tmps.getD 10 undef, a'.tmps.getD 11 undef, a'.tmps.getD 12 undef, a'.tmps.getD 13 undef, a'.tmps.getD 14 undef, ⟨by have g := hv6; unfold At at g; rw [Array.getD_eq_getD_getElem?, g]; rfl, hL⟩, hI.eq.trans ?_⟩))
      rw [← hA]
      kernel_rfl
    have hI : Kept (6 :: List.range' 8 7) a0 a0 := Kept.refl _ _
    clear hA hJ hK' J
    refine with_pan (fun d _ _ _ _ h => by cases d <;> exact h) ?_
    intro hpan
    refine wp_region_rest (fun z => z.heap[w.heap.size]? = some (watchB h a n c)) (by kernel_rfl) ?_
    obtain ⟨wz, hwz⟩ : ∃ x, W.drew = x := ⟨_, rfl⟩
    change Rest _ _ _ _ _ _ _ (W.drew)
    rw [hwz]
    have hq : Below W.heap.size W wz := by rw [← hwz]; exact (Below.refl _ _).drew
    clear hwz
    have hS := heap_lft HX.out hq
    refine rest_take (k := 0) (d := 8) (v := watchV h a n c) hI rfl rfl (by kernel_rfl) (Nat.lt_of_le_of_lt (by decide) hsz) (by kernel_rfl) hpan (by kernel_rfl) hS (wanted_free rfl) (fun z hz => by have n2 := hI.at m2 (by kernel_rfl); have e2 := n2; have f2 := n2.eval; unfold At at e2; have k0 := heap_cell hz (j := 0) rfl; have k1 := heap_cell hz (j := 1) rfl; simp [go_sem, e2, k0, k1]) (fun a' hI' n8' hk => ?_)
    have n8 := n8'
    replace hI := hI'
    clear hk hI' n8'
    obtain ⟨act9, rfl⟩ : ∃ x, x = a' := ⟨_, rfl⟩
    refine rest_take (k := 2) (d := 10) (v := watchV h a n c) hI rfl rfl (by kernel_rfl) (Nat.lt_of_le_of_lt (by decide) hsz) (by kernel_rfl) hpan (by kernel_rfl) hS (wanted_free rfl) (fun z hz => by have n2 := hI.at m2 (by kernel_rfl); have e2 := n2; have f2 := n2.eval; unfold At at e2; have k0 := heap_cell hz (j := 0) rfl; have k1 := heap_cell hz (j := 1) rfl; simp [go_sem, e2, k0, k1]) (fun a' hI' n10' hk => ?_)
    replace n8 := hk _ _ n8 rfl
    have n10 := n10'
    replace hI := hI'
    clear hk hI' n10'
    obtain ⟨act9, rfl⟩ : ∃ x, x = a' := ⟨_, rfl⟩
    refine rest_take (k := 3) (d := 11) (v := .int .i64 id) hI rfl rfl (by kernel_rfl) (Nat.lt_of_le_of_lt (by decide) hsz) (by kernel_rfl) hpan (by kernel_rfl) hS (wanted_free rfl) (fun z hz => by have n1 := hI.at m1 (by kernel_rfl); have e1 := n1; have f1 := n1.eval; unfold At at e1; simp [go_sem, e1]) (fun a' hI' n11' hk => ?_)
    replace n8 := hk _ _ n8 rfl
    replace n10 := hk _ _ n10 rfl
    have n11 := n11'
    replace hI := hI'
    clear hk hI' n11'
    obtain ⟨act9, rfl⟩ : ∃ x, x = a' := ⟨_, rfl⟩
    refine rest_only (k := 1) (by kernel_rfl) (op_call (k := 1) (d := 9) (R := fun v w' => v = .int .i64 (Pure.err (Pure.watch h n F) 70) ∧ Below wz.heap.size wz w') hI rfl rfl (by kernel_rfl) (Nat.lt_of_le_of_lt (by decide) hsz) (wanted_free rfl) ((check_any h a n c F (by omega) _ (HP.out.below hq)).mono fun e w' g => ⟨_, g.1, rfl, g.2⟩) (by have e8 := n8; have f8 := n8.eval; unfold At at e8; simp [go_sem, e8]) ?_)
    intro v w' a' hR hI' n9' hk
    obtain ⟨rfl, hb⟩ := hR
    refine ⟨heap_lft hS hb, ?_⟩
    replace n8 := hk _ _ n8 rfl
    replace n10 := hk _ _ n10 rfl
    replace n11 := hk _ _ n11 rfl
    have n9 := n9'
    replace hI := hI'
    clear hk hI' n9'
    obtain ⟨act9, rfl⟩ : ∃ x, x = a' := ⟨_, rfl⟩
    replace hS := heap_lft hS hb
    replace hq := below_thn hq hb
    clear hb
    obtain ⟨u1, rfl⟩ : ∃ x, x = w' := ⟨_, rfl⟩
    clear n8
    refine rest_only (k := 4) (by kernel_rfl) (op_call (k := 4) (d := 12) (R := fun v w' => v = .int .i64 (Pure.err (decide (0 ≤ Pure.rickAt n F id)) 6) ∧ Below u1.heap.size u1 w') hI rfl rfl (by kernel_rfl) (Nat.lt_of_le_of_lt (by decide) hsz) (wanted_free rfl) ((checkRick_any h a n c F id (by omega) _ (HP.out.below hq)).mono fun e w' g => ⟨_, g.1, rfl, g.2⟩) (by have e10 := n10; have f10 := n10.eval; unfold At at e10; have e11 := n11; have f11 := n11.eval; unfold At at e11; simp [go_sem, e10, e11]) ?_)
    intro v w' a' hR hI' n12' hk
    obtain ⟨rfl, hb⟩ := hR
    refine ⟨heap_lft hS hb, ?_⟩
    replace n10 := hk _ _ n10 rfl
    replace n11 := hk _ _ n11 rfl
    replace n9 := hk _ _ n9 rfl
    have n12 := n12'
    replace hI := hI'
    clear hk hI' n12'
    obtain ⟨act9, rfl⟩ : ∃ x, x = a' := ⟨_, rfl⟩
    replace hS := heap_lft hS hb
    replace hq := below_thn hq hb
    clear hb
    obtain ⟨u1b, rfl⟩ : ∃ x, x = w' := ⟨_, rfl⟩
    clear n10
    clear n11
    have hn1 := below_new u1b (.cells #[.int .i64 (Pure.err (Pure.watch h n F) 70), .int .i64 (Pure.err (decide (0 ≤ Pure.rickAt n F id)) 6)] 29)
    have hq1 := below_thn hq hn1
    have hs1 := heap_lft hS hn1
    have hc0 := cells_top u1b #[.int .i64 (Pure.err (Pure.watch h n F) 70), .int .i64 (Pure.err (decide (0 ≤ Pure.rickAt n F id)) 6)] 29 rfl 0
    have hc1 := cells_top u1b #[.int .i64 (Pure.err (Pure.watch h n F) 70), .int .i64 (Pure.err (decide (0 ≤ Pure.rickAt n F id)) 6)] 29 rfl 1
    obtain ⟨u2, hu2⟩ : ∃ x, u1b.alloc (.cells #[.int .i64 (Pure.err (Pure.watch h n F) 70), .int .i64 (Pure.err (decide (0 ≤ Pure.rickAt n F id)) 6)] 29) = x := ⟨_, rfl⟩
    rw [hu2] at hn1 hq1 hs1 hc0 hc1
    refine rest_only (k := 5) (by kernel_rfl) (op_value (k := 5) (d := 13) (v := .slice (some ⟨u1b.heap.size, 0, none⟩) 2 2) hI rfl rfl (by kernel_rfl) (Nat.lt_of_le_of_lt (by decide) hsz) (wanted_free rfl) (by have e9 := n9; have f9 := n9.eval; unfold At at e9; have e12 := n12; have f12 := n12.eval; unfold At at e12; simp [go_sem, e9, e12]; try rfl) (fun a' hI' n13' hk => ⟨by rw [hu2]; exact hs1, ?_⟩))
    replace n9 := hk _ _ n9 rfl
    replace n12 := hk _ _ n12 rfl
    have n13 := n13'
    replace hI := hI'
    clear hk hI' n13'
    obtain ⟨act9, rfl⟩ : ∃ x, x = a' := ⟨_, rfl⟩
    rw [hu2]
    clear hu2 hS hq hn1
    replace hS := hs1
    replace hq := hq1
    clear hs1 hq1
    clear n9
    clear n12
    refine rest_only (k := 6) (by kernel_rfl) (op_call (k := 6) (d := 14) (R := fun v w' => v = .int .i64 q ∧ Below u2.heap.size u2 w') hI rfl rfl (by kernel_rfl) (Nat.lt_of_le_of_lt (by decide) hsz) (wanted_free rfl) ((firstError2 _ _ _ 2 _ hc0 hc1).mono fun e w' g => ⟨_, g.1, congrArg (Value.int .i64) HQ.out, g.2⟩) (by have e13 := n13; have f13 := n13.eval; unfold At at e13; simp [go_sem, e13]) ?_)
    intro v w' a' hR hI' n14' hk
    obtain ⟨rfl, hb⟩ := hR
    refine ⟨heap_lft hS hb, ?_⟩
    replace n13 := hk _ _ n13 rfl
    have n14 := n14'
    replace hI := hI'
    clear hk hI' n14'
    obtain ⟨act9, rfl⟩ : ∃ x, x = a' := ⟨_, rfl⟩
    replace hS := heap_lft hS hb
    replace hq := below_thn hq hb
    clear hb
    refine rest_take (k := 7) (d := 6) (v := .int .i64 q) hI rfl rfl (by kernel_rfl) (Nat.lt_of_le_of_lt (by decide) hsz) (by kernel_rfl) hpan (by kernel_rfl) hS (wanted_free rfl) (fun z hz => by have e14 := n14; have f14 := n14.eval; unfold At at e14; simp [go_sem, e14]) (fun a' hI' n6' hk => ?_)
    replace n13 := hk _ _ n13 rfl
    replace n14 := hk _ _ n14 rfl
    have n6 := n6'
    replace hI := hI'
    clear hk hI' n6'
    obtain ⟨act9, rfl⟩ : ∃ x, x = a' := ⟨_, rfl⟩
    refine rest_done (by kernel_rfl) ?_
    exact hfin _ _ hI n6 hq
  case rest =>
    obtain ⟨W1, rfl⟩ : ∃ x, x = wc := ⟨_, rfl⟩
    obtain ⟨rfl, hb⟩ := hcut
    have HX1 := Lib.hid (heap_lft HX.out hb)
    have HY1 := Lib.hid (heap_lft HY.out hb)
    have HB1 := Lib.hid (below_thn HB.out hb)
    have HP1 := Lib.hid (HP.out.below hb)
    have HS1 : Hid (w.heap.size + 2 ≤ W1.heap.size) := Lib.hid (by have := hb.size; have := HSZ.out; omega)
    clear hb
    have y0 := heap_cell HY1.out (j := 0) rfl
    have y1 := heap_cell HY1.out (j := 1) rfl
    have f0 := heap_frozen HY1.out 0
    have f1 := heap_frozen HY1.out 1
    by_cases hw : Pure.watch h n F = true
    · rcases Pure.firstAt_cases (fun j => F (j * 3) == id) n with ⟨hr, hall⟩ | ⟨k, hkn, hr, hit, hall⟩
      · have hq0 : q = 6 := by rw [← HQ.out, hw]; unfold Pure.rickAt; rw [hr]; simp [Pure.err]
        subst hq0
        have HWT := Lib.hid hw
        have HR : Hid (Pure.rickAt n F id = -1) := Lib.hid hr
        clear hw hr hall
        go_wp2_with fail
        refine bodyPost_ret (v := .tuple #[watchV 0 none 0 0, .int .i64 6]) (by simp [results, Try.results8, go_sem, y0, y1]; try rfl) rfl ⟨0, none, 0, 0, 6, rfl, ?_, .inr (.inl ⟨HWT.out, HR.out, ⟨rfl, rfl, rfl, rfl⟩, rfl⟩)⟩
        repeat (first | with_reducible exact HB1.out | with_reducible refine Below.setCell ?_ (by first | (simp; done) | (dsimp only; omega)) _)
      · have hq0 : q = 0 := by rw [← HQ.out, hw]; unfold Pure.rickAt; rw [hr]; simp [Pure.err]
        subst hq0
        have HWT := Lib.hid hw
        have HR : Hid (Pure.rickAt n F id = k) := Lib.hid hr
        have HKN := Lib.hid hkn
        clear hw hr hall hit hkn
        have x0 := heap_cell HX1.out (j := 0) rfl
        have x1 := heap_cell HX1.out (j := 1) rfl
        have g0 := heap_frozen HX1.out 0
        have g1 := heap_frozen HX1.out 1
        clear y0 y1 f0 f1
        go_upto_region 4 with fail
        go_wp2_with fail
        refine (copied_any h a n c F (by omega) HZ.out _ HP1.out).mono ?_
        rintro e2 W2 ⟨a1, c1, rfl, ho, hb⟩
        have HX2 := Lib.hid (heap_lft HX1.out hb)
        have HY2 := Lib.hid (heap_lft HY1.out hb)
        have HB2 := Lib.hid (below_thn HB1.out hb)
        have HO2 := Lib.hid ho
        have HS2 : Hid (W1.heap.size ≤ W2.heap.size) := Lib.hid hb.size
        clear ho hb x0 x1 g0 g1
        have x0 := heap_cell HX2.out (j := 0) rfl
        have x1 := heap_cell HX2.out (j := 1) rfl
        have g0 := heap_frozen HX2.out 0
        have g1 := heap_frozen HX2.out 1
        go_upto_region 5 with fail
        obtain ⟨Z, hZ⟩ : ∃ Z, (W2.setCell ⟨w.heap.size, 0, none⟩ (.int .i64 h)).setCell ⟨w.heap.size, 1, none⟩ (.slice a1 n c1) = Z := ⟨_, rfl⟩
        have hs1 := HS1.out
        have HXZ : Hid (Z.heap[w.heap.size]? = some (watchB h a1 n c1)) := Lib.hid (by rw [← hZ]; exact heap_set (heap_set HX2.out 0 _) 1 _)
        have HYZ : Hid (Z.heap[w.heap.size + 1]? = some (watchB 0 none 0 0)) := Lib.hid (by rw [← hZ]; exact (Below.heap_setCell _ _ _ _ (by dsimp only; omega)).trans ((Below.heap_setCell _ _ _ _ (by dsimp only; omega)).trans HY2.out))
        have HBZ : Hid (Below w.heap.size w Z) := Lib.hid (by rw [← hZ]; exact (HB2.out.setCell (Nat.le_refl _) _).setCell (Nat.le_refl _) _)
        have HOZ : Hid (OwnNums Z W1.heap.size 26 3 a1 n c1 F) := Lib.hid (by rw [← hZ]; exact (HO2.out.set (by dsimp only; omega) _).set (by dsimp only; omega) _)
        have HSS : Hid (Z.heap.size = W2.heap.size) := Lib.hid (by rw [← hZ]; simp)
        try rw [hZ]
        clear hZ x0 x1 g0 g1 hs1
        obtain ⟨h1, h2, _⟩ | ⟨g, hg, _⟩ := HOZ.out.own_block
        · exact absurd HKN.out (by omega)
        subst hg
        go_cut [7] from 21 to 27 (fun s wx => ∃ B, s = .pointer (some ⟨B, 0, none⟩) ∧ Z.heap.size ≤ B ∧ wx.heap[B]? = some (rickB (F (k * 3)) (F (k * 3 + 1)) (F (k * 3 + 2))) ∧ Below Z.heap.size Z wx)
        case first =>
          rename_i J K' hJ hK'
          generalize hA : (Act.mk _ _ : Act) = a0
          have m1 : At a0 1 (.int .i64 id) := by rw [← hA]; rfl
          have m2 : At a0 2 (.pointer (some ⟨w.heap.size, 0, none⟩)) := by rw [← hA]; rfl
          have hsz : 27 < a0.tmps.size := by rw [← hA]; exact of_decide_eq_true (by kernel_rfl)
          have hfin : ∀ a' w' s7, Kept (7 :: List.range' 21 7) a0 a' → At a' 7 (s7) → (∃ B, s7 = .pointer (some ⟨B, 0, none⟩) ∧ Z.heap.size ≤ B ∧ w'.heap[B]? = some (rickB (F (k * 3)) (F (k * 3 + 1)) (F (k * 3 + 2))) ∧ Below Z.heap.size Z w') → K' a' w' := by
            intro a' w' s7 hI hv7 hL
            refine hK' _ _ (Met.intro (hJ _ _ ⟨a'.tmps.getD 7 undef, a'.tmps.getD 21 undef, a'.tmps.getD 22 undef, a'.tmps.getD 23 undef, a'.tmps.getD 24 undef, a'.tmps.getD 25 undef, a'.tmps.getD 26 undef, a'.tmps.getD 27 undef, by have g := hv7; unfold At at g; rw [Array.getD_eq_getD_getElem?, g]; exact hL, hI.eq.trans ?_⟩))
            rw [← hA]
            kernel_rfl
          have hI : Kept (7 :: List.range' 21 7) a0 a0 := Kept.refl _ _
          clear hA hJ hK' J
          refine with_pan (fun d _ _ _ _ h => by cases d <;> exact h) ?_
          intro hpan
          refine wp_region_rest (fun z => z.heap[w.heap.size]? = some (watchB h (some ⟨g, 0, none⟩) n c1) ∧ NumsAt z (some ⟨g, 0, none⟩) (n * 3) F) (by kernel_rfl) ?_
          obtain ⟨wz, hwz⟩ : ∃ x, Z.drew = x := ⟨_, rfl⟩
          change Rest _ _ _ _ _ _ _ (Z.drew)
          rw [hwz]
          have hq : Below Z.heap.size Z wz := by rw [← hwz]; exact (Below.refl _ _).drew
          clear hwz
          have hS : wz.heap[w.heap.size]? = some (watchB h (some ⟨g, 0, none⟩) n c1) ∧ NumsAt wz (some ⟨g, 0, none⟩) (n * 3) F := ⟨heap_lft HXZ.out hq, HOZ.out.nums.below hq⟩
          refine rest_take (k := 0) (d := 21) (v := .pointer (some ⟨w.heap.size, 1, none⟩)) hI rfl rfl (by kernel_rfl) (Nat.lt_of_le_of_lt (by decide) hsz) (by kernel_rfl) hpan (by kernel_rfl) hS (wanted_free rfl) (fun z hz => by have n2 := hI.at m2 (by kernel_rfl); have e2 := n2; have f2 := n2.eval; unfold At at e2; simp [go_sem, e2]) (fun a' hI' n21' hk => ?_)
          have n21 := n21'
          replace hI := hI'
          clear hk hI' n21'
          obtain ⟨act9, rfl⟩ : ∃ x, x = a' := ⟨_, rfl⟩
          refine rest_take (k := 1) (d := 22) (v := .slice (some ⟨g, 0, none⟩) n c1) hI rfl rfl (by kernel_rfl) (Nat.lt_of_le_of_lt (by decide) hsz) (by kernel_rfl) hpan (by kernel_rfl) hS (wanted_free rfl) (fun z hz => by have e21 := n21; have f21 := n21.eval; unfold At at e21; have k1 := heap_cell hz.1 (j := 1) rfl; simp [go_sem, e21, k1]) (fun a' hI' n22' hk => ?_)
          replace n21 := hk _ _ n21 rfl
          have n22 := n22'
          replace hI := hI'
          clear hk hI' n22'
          obtain ⟨act9, rfl⟩ : ∃ x, x = a' := ⟨_, rfl⟩
          clear n21
          refine rest_take (k := 2) (d := 23) (v := watchV h (some ⟨g, 0, none⟩) n c1) hI rfl rfl (by kernel_rfl) (Nat.lt_of_le_of_lt (by decide) hsz) (by kernel_rfl) hpan (by kernel_rfl) hS (wanted_free rfl) (fun z hz => by have n2 := hI.at m2 (by kernel_rfl); have e2 := n2; have f2 := n2.eval; unfold At at e2; have k0 := heap_cell hz.1 (j := 0) rfl; have k1 := heap_cell hz.1 (j := 1) rfl; simp [go_sem, e2, k0, k1]) (fun a' hI' n23' hk => ?_)
          replace n22 := hk _ _ n22 rfl
          have n23 := n23'
          replace hI := hI'
          clear hk hI' n23'
          obtain ⟨act9, rfl⟩ : ∃ x, x = a' := ⟨_, rfl⟩
          refine rest_take (k := 3) (d := 24) (v := .int .i64 id) hI rfl rfl (by kernel_rfl) (Nat.lt_of_le_of_lt (by decide) hsz) (by kernel_rfl) hpan (by kernel_rfl) hS (wanted_free rfl) (fun z hz => by have n1 := hI.at m1 (by kernel_rfl); have e1 := n1; have f1 := n1.eval; unfold At at e1; simp [go_sem, e1]) (fun a' hI' n24' hk => ?_)
          replace n22 := hk _ _ n22 rfl
          replace n23 := hk _ _ n23 rfl
          have n24 := n24'
          replace hI := hI'
          clear hk hI' n24'
          obtain ⟨act9, rfl⟩ : ∃ x, x = a' := ⟨_, rfl⟩
          refine rest_split [4, 7] (by kernel_rfl) rfl (fun i9 hi9 => ?_)
          have hi9' : i9 = 4 ∨ i9 = 7 := by simpa using hi9
          clear hi9
          rcases hi9' with rfl | rfl
          · refine _root_.id (op_call (k := 4) (d := 25) (R := fun v w' => v = .int .i64 k ∧ Below wz.heap.size wz w') hI rfl rfl (by kernel_rfl) (Nat.lt_of_le_of_lt (by decide) hsz) (wanted_free rfl) ((place_any h (some ⟨g, 0, none⟩) n c1 F id (by omega) _ hS.2).mono fun e w' g => ⟨_, g.1, congrArg (Value.int .i64) HR.out, g.2⟩) (by have e23 := n23; have f23 := n23.eval; unfold At at e23; have e24 := n24; have f24 := n24.eval; unfold At at e24; simp [go_sem, e23, e24]) ?_)
            intro v w' a' hR hI' n25' hk
            obtain ⟨rfl, hb⟩ := hR
            refine ⟨⟨heap_lft hS.1 hb, hS.2.below hb⟩, ?_⟩
            replace n22 := hk _ _ n22 rfl
            replace n23 := hk _ _ n23 rfl
            replace n24 := hk _ _ n24 rfl
            have n25 := n25'
            replace hI := hI'
            clear hk hI' n25'
            obtain ⟨act9, rfl⟩ : ∃ x, x = a' := ⟨_, rfl⟩
            replace hS : w'.heap[w.heap.size]? = some (watchB h (some ⟨g, 0, none⟩) n c1) ∧ NumsAt w' (some ⟨g, 0, none⟩) (n * 3) F := ⟨heap_lft hS.1 hb, hS.2.below hb⟩
            replace hq := below_thn hq hb
            clear hb
            obtain ⟨u1, rfl⟩ : ∃ x, x = w' := ⟨_, rfl⟩
            have HKN1 : (k : Int) < n := by have := HKN.out; omega
            refine rest_take (k := 5) (d := 26) (v := .pointer (some ⟨g, k * 3, none⟩)) hI rfl rfl (by kernel_rfl) (Nat.lt_of_le_of_lt (by decide) hsz) (by kernel_rfl) hpan (by kernel_rfl) hS (wanted_free rfl) (fun z hz => by have e22 := n22; have f22 := n22.eval; unfold At at e22; have e25 := n25; have f25 := n25.eval; unfold At at e25; simp [go_sem, e22, e25, HKN1]) (fun a' hI' n26' hk => ?_)
            replace n22 := hk _ _ n22 rfl
            replace n23 := hk _ _ n23 rfl
            replace n24 := hk _ _ n24 rfl
            replace n25 := hk _ _ n25 rfl
            have n26 := n26'
            replace hI := hI'
            clear hk hI' n26'
            obtain ⟨act9, rfl⟩ : ∃ x, x = a' := ⟨_, rfl⟩
            refine rest_take (k := 6) (d := 27) (v := rickV (F (k * 3)) (F (k * 3 + 1)) (F (k * 3 + 2))) hI rfl rfl (by kernel_rfl) (Nat.lt_of_le_of_lt (by decide) hsz) (by kernel_rfl) hpan (by kernel_rfl) hS (wanted_free rfl) (fun z hz => by have e26 := n26; have f26 := n26.eval; unfold At at e26; have kk := HKN.out; have k0 := hz.2.at (show k * 3 < n * 3 by omega); have k1 := nums_row hz.2 (show k * 3 + 1 < n * 3 by omega); have k2 := nums_row hz.2 (show k * 3 + 2 < n * 3 by omega); simp only [Nat.zero_add] at k0 k1 k2; simp [go_sem, e26, k0, k1, k2]) (fun a' hI' n27' hk => ?_)
            replace n22 := hk _ _ n22 rfl
            replace n23 := hk _ _ n23 rfl
            replace n24 := hk _ _ n24 rfl
            replace n25 := hk _ _ n25 rfl
            replace n26 := hk _ _ n26 rfl
            have n27 := n27'
            replace hI := hI'
            clear hk hI' n27'
            obtain ⟨act9, rfl⟩ : ∃ x, x = a' := ⟨_, rfl⟩
            have hn1 := below_new u1 (rickB 0 0 0)
            have htop := heap_top u1 (rickB 0 0 0) rfl
            have hq1 := below_thn hq hn1
            obtain ⟨wl, hwl⟩ : ∃ x, u1.alloc (rickB 0 0 0) = x := ⟨_, rfl⟩
            rw [hwl] at hn1 htop hq1
            have hge0 : Z.heap.size ≤ u1.heap.size := hq.size
            refine rest_only (k := 7) (by kernel_rfl) (op_value (k := 7) (d := 7) (v := .pointer (some ⟨u1.heap.size, 0, none⟩)) hI rfl rfl (by kernel_rfl) (Nat.lt_of_le_of_lt (by decide) hsz) (wanted_free rfl) (by simp [go_sem]; try rfl) (fun a' hI' n7' hk => ⟨by rw [hwl]; exact ⟨heap_lft hS.1 hn1, hS.2.below hn1⟩, ?_⟩))
            replace n22 := hk _ _ n22 rfl
            replace n23 := hk _ _ n23 rfl
            replace n24 := hk _ _ n24 rfl
            replace n25 := hk _ _ n25 rfl
            replace n26 := hk _ _ n26 rfl
            replace n27 := hk _ _ n27 rfl
            have n7 := n7'
            replace hI := hI'
            clear hk hI' n7'
            obtain ⟨act9, rfl⟩ : ∃ x, x = a' := ⟨_, rfl⟩
            rw [hwl]
            clear hwl hS
            replace hq := hq1
            clear hq1 hn1
            have hX0 := htop
            have hge : Z.heap.size ≤ u1.heap.size := hge0
            obtain ⟨M, hM⟩ : ∃ M, ((wl.setCell ⟨u1.heap.size, 0, none⟩ (.int .i64 (F (k * 3)))).setCell ⟨u1.heap.size, 1, none⟩ (.int .i64 (F (k * 3 + 1)))).setCell ⟨u1.heap.size, 2, none⟩ (.int .i64 (F (k * 3 + 2))) = M := ⟨_, rfl⟩
            have hXM : M.heap[u1.heap.size]? = some (rickB (F (k * 3)) (F (k * 3 + 1)) (F (k * 3 + 2))) := by rw [← hM]; exact heap_set (heap_set (heap_set hX0 0 _) 1 _) 2 _
            have hbm : Below Z.heap.size Z M := by rw [← hM]; exact ((hq.setCell hge _).setCell hge _).setCell hge _
            have hSM : M.heap[w.heap.size]? = some (watchB h (some ⟨g, 0, none⟩) n c1) ∧ NumsAt M (some ⟨g, 0, none⟩) (n * 3) F := ⟨heap_lft HXZ.out hbm, HOZ.out.nums.below hbm⟩
            refine rest_only (k := 8) (by kernel_rfl) (op_store (k := 8) rfl rfl (wanted_free rfl) (by have e7 := n7; have f7 := n7.eval; unfold At at e7; have e27 := n27; have f27 := n27.eval; unfold At at e27; have k0 := heap_cell hX0 (j := 0) rfl; have k1 := heap_cell hX0 (j := 1) rfl; have k2 := heap_cell hX0 (j := 2) rfl; have f0 := heap_frozen hX0 0; have f1 := heap_frozen hX0 1; have f2 := heap_frozen hX0 2; simp [go_sem, e7, e27, k0, k1, k2, f0, f1, f2]; try rfl) ⟨by rw [hM]; exact hSM, ?_⟩)
            refine rest_done (by kernel_rfl) ?_
            rw [hM]
            exact hfin _ _ _ hI n7 ⟨u1.heap.size, rfl, hge, hXM, hbm⟩
          · have hn1 := below_new wz (rickB 0 0 0)
            have htop := heap_top wz (rickB 0 0 0) rfl
            have hq1 := below_thn hq hn1
            obtain ⟨wb, hwb⟩ : ∃ x, wz.alloc (rickB 0 0 0) = x := ⟨_, rfl⟩
            rw [hwb] at hn1 htop hq1
            have hge0 : Z.heap.size ≤ wz.heap.size := hq.size
            refine _root_.id (op_value (k := 7) (d := 7) (v := .pointer (some ⟨wz.heap.size, 0, none⟩)) hI rfl rfl (by kernel_rfl) (Nat.lt_of_le_of_lt (by decide) hsz) (wanted_free rfl) (by simp [go_sem]; try rfl) (fun a' hI' n7' hk => ⟨by rw [hwb]; exact ⟨heap_lft hS.1 hn1, hS.2.below hn1⟩, ?_⟩))
            replace n22 := hk _ _ n22 rfl
            replace n23 := hk _ _ n23 rfl
            replace n24 := hk _ _ n24 rfl
            have n7 := n7'
            replace hI := hI'
            clear hk hI' n7'
            obtain ⟨act9, rfl⟩ : ∃ x, x = a' := ⟨_, rfl⟩
            rw [hwb]
            replace hS : wb.heap[w.heap.size]? = some (watchB h (some ⟨g, 0, none⟩) n c1) ∧ NumsAt wb (some ⟨g, 0, none⟩) (n * 3) F := ⟨heap_lft hS.1 hn1, hS.2.below hn1⟩
            clear hwb
            replace hq := hq1
            clear hq1 hn1
            refine rest_only (k := 4) (by kernel_rfl) (op_call (k := 4) (d := 25) (R := fun v w' => v = .int .i64 k ∧ Below wb.heap.size wb w') hI rfl rfl (by kernel_rfl) (Nat.lt_of_le_of_lt (by decide) hsz) (wanted_free rfl) ((place_any h (some ⟨g, 0, none⟩) n c1 F id (by omega) _ hS.2).mono fun e w' g => ⟨_, g.1, congrArg (Value.int .i64) HR.out, g.2⟩) (by have e23 := n23; have f23 := n23.eval; unfold At at e23; have e24 := n24; have f24 := n24.eval; unfold At at e24; simp [go_sem, e23, e24]) ?_)
            intro v w' a' hR hI' n25' hk
            obtain ⟨rfl, hb⟩ := hR
            refine ⟨⟨heap_lft hS.1 hb, hS.2.below hb⟩, ?_⟩
            replace n22 := hk _ _ n22 rfl
            replace n23 := hk _ _ n23 rfl
            replace n24 := hk _ _ n24 rfl
            replace n7 := hk _ _ n7 rfl
            have n25 := n25'
            replace hI := hI'
            clear hk hI' n25'
            obtain ⟨act9, rfl⟩ : ∃ x, x = a' := ⟨_, rfl⟩
            replace hS : w'.heap[w.heap.size]? = some (watchB h (some ⟨g, 0, none⟩) n c1) ∧ NumsAt w' (some ⟨g, 0, none⟩) (n * 3) F := ⟨heap_lft hS.1 hb, hS.2.below hb⟩
            replace hq := below_thn hq hb
            replace htop := heap_lft htop hb
            clear hb
            obtain ⟨wl, rfl⟩ : ∃ x, x = w' := ⟨_, rfl⟩
            have HKN1 : (k : Int) < n := by have := HKN.out; omega
            refine rest_take (k := 5) (d := 26) (v := .pointer (some ⟨g, k * 3, none⟩)) hI rfl rfl (by kernel_rfl) (Nat.lt_of_le_of_lt (by decide) hsz) (by kernel_rfl) hpan (by kernel_rfl) hS (wanted_free rfl) (fun z hz => by have e22 := n22; have f22 := n22.eval; unfold At at e22; have e25 := n25; have f25 := n25.eval; unfold At at e25; simp [go_sem, e22, e25, HKN1]) (fun a' hI' n26' hk => ?_)
            replace n22 := hk _ _ n22 rfl
            replace n23 := hk _ _ n23 rfl
            replace n24 := hk _ _ n24 rfl
            replace n7 := hk _ _ n7 rfl
            replace n25 := hk _ _ n25 rfl
            have n26 := n26'
            replace hI := hI'
            clear hk hI' n26'
            obtain ⟨act9, rfl⟩ : ∃ x, x = a' := ⟨_, rfl⟩
            refine rest_take (k := 6) (d := 27) (v := rickV (F (k * 3)) (F (k * 3 + 1)) (F (k * 3 + 2))) hI rfl rfl (by kernel_rfl) (Nat.lt_of_le_of_lt (by decide) hsz) (by kernel_rfl) hpan (by kernel_rfl) hS (wanted_free rfl) (fun z hz => by have e26 := n26; have f26 := n26.eval; unfold At at e26; have kk := HKN.out; have k0 := hz.2.at (show k * 3 < n * 3 by omega); have k1 := nums_row hz.2 (show k * 3 + 1 < n * 3 by omega); have k2 := nums_row hz.2 (show k * 3 + 2 < n * 3 by omega); simp only [Nat.zero_add] at k0 k1 k2; simp [go_sem, e26, k0, k1, k2]) (fun a' hI' n27' hk => ?_)
            replace n22 := hk _ _ n22 rfl
            replace n23 := hk _ _ n23 rfl
            replace n24 := hk _ _ n24 rfl
            replace n7 := hk _ _ n7 rfl
            replace n25 := hk _ _ n25 rfl
            replace n26 := hk _ _ n26 rfl
            have n27 := n27'
            replace hI := hI'
            clear hk hI' n27'
            obtain ⟨act9, rfl⟩ : ∃ x, x = a' := ⟨_, rfl⟩
            have hX0 := htop
            have hge : Z.heap.size ≤ wz.heap.size := hge0
            obtain ⟨M, hM⟩ : ∃ M, ((wl.setCell ⟨wz.heap.size, 0, none⟩ (.int .i64 (F (k * 3)))).setCell ⟨wz.heap.size, 1, none⟩ (.int .i64 (F (k * 3 + 1)))).setCell ⟨wz.heap.size, 2, none⟩ (.int .i64 (F (k * 3 + 2))) = M := ⟨_, rfl⟩
            have hXM : M.heap[wz.heap.size]? = some (rickB (F (k * 3)) (F (k * 3 + 1)) (F (k * 3 + 2))) := by rw [← hM]; exact heap_set (heap_set (heap_set hX0 0 _) 1 _) 2 _
            have hbm : Below Z.heap.size Z M := by rw [← hM]; exact ((hq.setCell hge _).setCell hge _).setCell hge _
            have hSM : M.heap[w.heap.size]? = some (watchB h (some ⟨g, 0, none⟩) n c1) ∧ NumsAt M (some ⟨g, 0, none⟩) (n * 3) F := ⟨heap_lft HXZ.out hbm, HOZ.out.nums.below hbm⟩
            refine rest_only (k := 8) (by kernel_rfl) (op_store (k := 8) rfl rfl (wanted_free rfl) (by have e7 := n7; have f7 := n7.eval; unfold At at e7; have e27 := n27; have f27 := n27.eval; unfold At at e27; have k0 := heap_cell hX0 (j := 0) rfl; have k1 := heap_cell hX0 (j := 1) rfl; have k2 := heap_cell hX0 (j := 2) rfl; have f0 := heap_frozen hX0 0; have f1 := heap_frozen hX0 1; have f2 := heap_frozen hX0 2; simp [go_sem, e7, e27, k0, k1, k2, f0, f1, f2]; try rfl) ⟨by rw [hM]; exact hSM, ?_⟩)
            refine rest_done (by kernel_rfl) ?_
            rw [hM]
            exact hfin _ _ _ hI n7 ⟨wz.heap.size, rfl, hge, hXM, hbm⟩
        case rest =>
          obtain ⟨U, rfl⟩ : ∃ x, x = wc := ⟨_, rfl⟩
          obtain ⟨B, rfl, hBZ, hBx, hb⟩ := hcut
          have HXU := Lib.hid (heap_lft HXZ.out hb)
          have HYU := Lib.hid (heap_lft HYZ.out hb)
          have HBU := Lib.hid (below_thn HBZ.out hb)
          have HOU := Lib.hid (HOZ.out.below hb)
          have HSU : Hid (Z.heap.size ≤ U.heap.size) := Lib.hid hb.size
          have HBX := Lib.hid hBx
          have HBL := Lib.hid hBZ
          clear hb hBx hBZ
          have x1 := heap_cell HXU.out (j := 1) rfl
          go_wp2_with fail
          refine (delete_any B _ _ _ k (some ⟨g, 0, none⟩) n c1 F W1.heap.size (by omega) HKN.out _ HBX.out (by have := HSU.out; have := HSS.out; have := HS2.out; omega) (fun x hx => by have h1 := (HOZ.out.lt x hx).2; have h2 := HBL.out; omega) HOU.out (fun j hj => by
            rw [decide_eq_decide]
            constructor
            · intro g1
              rcases Nat.lt_trichotomy j k with h1 | h1 | h1
              · have := Pure.watch_sort HWT.out k j h1 HKN.out; omega
              · exact h1
              · have := Pure.watch_sort HWT.out j k h1 hj; omega
            · rintro rfl
              exact ⟨rfl, rfl, rfl⟩)).mono ?_
          rintro e2 X ⟨rfl, ho, hb, hal⟩
          have hs1 := HS1.out
          have HXX : Hid (X.heap[w.heap.size]? = some (watchB h (some ⟨g, 0, none⟩) n c1)) := Lib.hid ((hb.block _ (by omega)).trans HXU.out)
          have HYX : Hid (X.heap[w.heap.size + 1]? = some (watchB 0 none 0 0)) := Lib.hid ((hb.block _ (by omega)).trans HYU.out)
          have HBX2 : Hid (Below w.heap.size w X) := Lib.hid (HBU.out.trans (hb.mono (by omega)))
          have HOX := Lib.hid ho
          clear ho hb hal x1 hs1
          have x1 := heap_cell HXX.out (j := 1) rfl
          have g1 := heap_frozen HXX.out 1
          go_upto_region 7 with fail
          obtain ⟨M, hM⟩ : ∃ M, X.setCell ⟨w.heap.size, 1, none⟩ (.slice (some ⟨g, 0, none⟩) (n - 1) c1) = M := ⟨_, rfl⟩
          have hs1 := HS1.out
          have HXM : Hid (M.heap[w.heap.size]? = some (watchB h (some ⟨g, 0, none⟩) (n - 1) c1)) := Lib.hid (by rw [← hM]; exact heap_set HXX.out 1 _)
          have HYM : Hid (M.heap[w.heap.size + 1]? = some (watchB 0 none 0 0)) := Lib.hid (by rw [← hM]; exact (Below.heap_setCell _ _ _ _ (by dsimp only; omega)).trans HYX.out)
          have HBM : Hid (Below w.heap.size w M) := Lib.hid (by rw [← hM]; exact HBX2.out.setCell (Nat.le_refl _) _)
          have HOM : Hid (OwnNums M W1.heap.size 26 3 (some ⟨g, 0, none⟩) (n - 1) c1 (Pure.delF F k)) := Lib.hid (by rw [← hM]; exact HOX.out.set (by dsimp only; omega) _)
          try rw [hM]
          clear hM x1 g1 hs1
          have x0 := heap_cell HXM.out (j := 0) rfl
          have x1 := heap_cell HXM.out (j := 1) rfl
          have y0 := heap_cell HYM.out (j := 0) rfl
          have y1 := heap_cell HYM.out (j := 1) rfl
          have f0 := heap_frozen HYM.out 0
          have f1 := heap_frozen HYM.out 1
          go_wp2_with fail
          refine bodyPost_ret (v := .tuple #[watchV h (some ⟨g, 0, none⟩) (n - 1) c1, .int .i64 0]) (by simp [results, Try.results8, go_sem, y0, y1]; try rfl) rfl ⟨h, some ⟨g, 0, none⟩, n - 1, c1, 0, rfl, ?_, .inr (.inr ⟨HWT.out, k, HKN.out, HR.out, rfl, rfl, rfl, ?_⟩)⟩
          repeat (first | with_reducible exact HBM.out | with_reducible refine Below.setCell ?_ (by first | (simp; done) | (dsimp only; omega)) _)
          have hs1 := HS1.out
          refine OwnNums.base (base := W1.heap.size) ?_ (by omega)
          repeat (first | with_reducible exact HOM.out | with_reducible refine OwnNums.set ?_ (by dsimp only; omega) _)
    · have hwf : Pure.watch h n F = false := by simpa using hw
      have hq0 : q = 70 := by rw [← HQ.out, hwf]; simp [Pure.err]
      subst hq0
      have HWT := Lib.hid hwf
      clear hw hwf
      go_wp2_with fail
      refine bodyPost_ret (v := .tuple #[watchV 0 none 0 0, .int .i64 70]) (by simp [results, Try.results8, go_sem, y0, y1]; try rfl) rfl ⟨0, none, 0, 0, 70, rfl, ?_, .inl ⟨HWT.out, ⟨rfl, rfl, rfl, rfl⟩, rfl⟩⟩
      repeat (first | with_reducible exact HB1.out | with_reducible refine Below.setCell ?_ (by first | (simp; done) | (dsimp only; omega)) _)

end Go.Proofs.Ytknpdjbokgenpab
