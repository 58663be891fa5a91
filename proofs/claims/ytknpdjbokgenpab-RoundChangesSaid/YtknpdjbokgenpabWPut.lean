/-
  What Put and Drop give, and the contract of the program's Put.
-/
import Derived.Test.YtknpdjbokgenpabWInsert
import Derived.Test.YtknpdjbokgenpabWRef
namespace Go.Proofs.Ytknpdjbokgenpab
open Go.RowKit

/-- The place of an Id among Ids that rise. -/
structure IsPlace (F : Nat → Int) (x : Int) (n k : Nat) : Prop where
  le : k ≤ n
  lo : ∀ m, m < k → F (m * 3) < x
  hi : ∀ m, k ≤ m → m < n → x ≤ F (m * 3)
theorem IsPlace.same {F : Nat → Int} {x : Int} {n k k' : Nat} (h : IsPlace F x n k) (h' : IsPlace F x n k') : k = k' := by
  rcases Nat.lt_trichotomy k k' with g | g | g
  · have h1 := h'.lo k g
    have h2 := h.hi k (Nat.le_refl _) (Nat.lt_of_lt_of_le g h'.le)
    omega
  · exact g
  · have h1 := h.lo k' g
    have h2 := h'.hi k' (Nat.le_refl _) (Nat.lt_of_lt_of_le g h.le)
    omega
/-- The numbers of one rick. -/
def rowX (i e d : Int) : Nat → Int := fun j => if j = 0 then i else if j = 1 then e else d
theorem nums_rick {w : World} {B : Nat} {i e d : Int} (h : w.heap[B]? = some (rickB i e d)) : NumsAt w (some ⟨B, 0, none⟩) (1 * 3) (rowX i e d) := fun j hj => by
  refine ⟨B, 0, rfl, ?_⟩
  have hj3 : j = 0 ∨ j = 1 ∨ j = 2 := by omega
  rcases hj3 with rfl | rfl | rfl
  · exact heap_cell h rfl
  · exact heap_cell h rfl
  · exact heap_cell h rfl
/-- What putting a rick gives. -/
def PutOut (h : Int) (n : Nat) (F : Nat → Int) (i e d : Int) (w : World) (x : Ending) (w' : World) : Prop :=
  ∃ hh aa nn cc code, x = .returned (.tuple #[watchV hh aa nn cc, .int .i64 code]) ∧ Below w.heap.size w w' ∧
    ((Pure.watch h n F = false ∧ (hh = 0 ∧ aa = none ∧ nn = 0 ∧ cc = 0) ∧ code = 70) ∨ (Pure.watch h n F = true ∧ ¬ n < 4 ∧ (hh = 0 ∧ aa = none ∧ nn = 0 ∧ cc = 0) ∧ code = 9) ∨
     (Pure.watch h n F = true ∧ n < 4 ∧ ∃ k, IsPlace F i n k ∧
       ((Pure.watch h (n + 1) (Pure.insF F k (rowX i e d)) = false ∧ (hh = 0 ∧ aa = none ∧ nn = 0 ∧ cc = 0) ∧ code = 71) ∨
        (Pure.watch h (n + 1) (Pure.insF F k (rowX i e d)) = true ∧ code = 0 ∧ hh = h ∧ nn = n + 1 ∧ OwnNums w' w.heap.size 26 3 aa (n + 1) cc (Pure.insF F k (rowX i e d))))))

theorem Pure.watch_sort {h : Int} {n : Nat} {F : Nat → Int} (hw : Pure.watch h n F = true) : ∀ (y x : Nat), x < y → y < n → F (x * 3) < F (y * 3)
  | 0, x, hx, _ => absurd hx (Nat.not_lt_zero _)
  | y + 1, x, hx, hy => by
    have h4 := (Pure.watch_iff.1 hw).2.2.2 y (by omega)
    by_cases e : x = y
    · subst e; exact h4
    · have := Pure.watch_sort hw y x (by omega) (by omega)
      omega

set_option maxHeartbeats 8000000 in
set_option maxRecDepth 100000 in
theorem put_any (h : Int) (a : Option Addr) (n c : Nat) (F : Nat → Int) (i e d : Int) (hn : n ≤ 20) (hnil : a = none → n = 0 ∧ c = 0) (w : World) (hF : NumsAt w a (n * 3) F) :
    Calls Try.prog 6 #[watchV h a n c, rickV i e d] w (PutOut h n F i e d w) := by
  obtain ⟨W, hW⟩ : ∃ W, ((w.alloc (watchB h a n c)).alloc (rickB i e d)).alloc (watchB 0 none 0 0) = W := ⟨_, rfl⟩
  have HB : Hid (Below w.heap.size w W) := Lib.hid (by rw [← hW]; exact ((below_new _ _).alloc (by simp) _).alloc (by simp; omega) _)
  have HX : Hid (W.heap[w.heap.size]? = some (watchB h a n c)) := Lib.hid (by rw [← hW]; exact heap_up (heap_up (heap_top _ _ rfl) _) _)
  have HI : Hid (W.heap[w.heap.size + 1]? = some (rickB i e d)) := Lib.hid (by rw [← hW]; exact heap_up (heap_top _ _ (by simp)) _)
  have HY : Hid (W.heap[w.heap.size + 1 + 1]? = some (watchB 0 none 0 0)) := Lib.hid (by rw [← hW]; exact heap_top _ _ (by simp))
  have HSZ : Hid (W.heap.size = w.heap.size + 3) := Lib.hid (by rw [← hW]; simp)
  have HP := Lib.hid (hF.below HB.out)
  have HZ := Lib.hid hnil
  clear hF hnil
  obtain ⟨q, hq⟩ : ∃ q, (if Pure.err (Pure.watch h n F) 70 = 0 then Pure.err (decide ((n : Int) < 4)) 9 else Pure.err (Pure.watch h n F) 70) = q := ⟨_, rfl⟩
  have HQ := Lib.hid hq
  clear hq
  go_enter Try.func6, Try.ntmps6
  go_upto_region 1 with fail
  try rw [hW]
  clear hW
  go_cut [6] from 9 to 17 (fun s wx => s = .int .i64 q ∧ Below W.heap.size W wx)
  case first =>
    rename_i J K' hJ hK'
    generalize hA : (Act.mk _ _ : Act) = a0
    have m2 : At a0 2 (.pointer (some ⟨w.heap.size, 0, none⟩)) := by rw [← hA]; rfl
    have hsz : 17 < a0.tmps.size := by rw [← hA]; exact of_decide_eq_true (by kernel_rfl)
    have hfin : ∀ a' w', Kept (6 :: List.range' 9 9) a0 a' → At a' 6 (.int .i64 q) → (Below W.heap.size W w') → K' a' w' := by
      intro a' w' hI hv6 hL
      refine hK' _ _ (Met.intro (hJ _ _ ⟨a'.tmps.getD 6 undef, a'.tmps.getD 9 undef, a'.tmps.getD 10 undef, a'.tmps.getD 11 undef, a'.tmps.getD 12 undef, a'.tmps.getD 13 undef, a'.tmps.getD 14 undef, a'.tmps.getD 15 undef, a'.tmps.getD 16 undef, a'.tmps.getD 17 undef, ⟨by have g := hv6; unfold At at g; rw [Array.getD_eq_getD_getElem?, g]; rfl, hL⟩, hI.eq.trans ?_⟩))
      rw [← hA]
      kernel_rfl
    have hI : Kept (6 :: List.range' 9 9) a0 a0 := Kept.refl _ _
    clear hA hJ hK' J
    refine with_pan (fun d _ _ _ _ h => by cases d <;> exact h) ?_
    intro hpan
    refine wp_region_rest (fun z => z.heap[w.heap.size]? = some (watchB h a n c)) (by kernel_rfl) ?_
    obtain ⟨wz, hwz⟩ : ∃ x, W.drew = x := ⟨_, rfl⟩
    change Rest _ _ _ _ _ _ _ (W.drew)
    rw [hwz]
    have hq : Below W.heap.size W wz := by rw [← hwz]; exact (Below.refl _ _).drew
    clear hwz
    have hS := heap_lft HX.out hq
    refine rest_take (k := 0) (d := 9) (v := watchV h a n c) hI rfl rfl (by kernel_rfl) (Nat.lt_of_le_of_lt (by decide) hsz) (by kernel_rfl) hpan (by kernel_rfl) hS (wanted_free rfl) (fun z hz => by have n2 := hI.at m2 (by kernel_rfl); have e2 := n2; have f2 := n2.eval; unfold At at e2; have k0 := heap_cell hz (j := 0) rfl; have k1 := heap_cell hz (j := 1) rfl; simp [go_sem, e2, k0, k1]) (fun a' hI' n9' hk => ?_)
    have n9 := n9'
    replace hI := hI'
    clear hk hI' n9'
    obtain ⟨act9, rfl⟩ : ∃ x, x = a' := ⟨_, rfl⟩
    refine rest_take (k := 2) (d := 11) (v := .pointer (some ⟨w.heap.size, 1, none⟩)) hI rfl rfl (by kernel_rfl) (Nat.lt_of_le_of_lt (by decide) hsz) (by kernel_rfl) hpan (by kernel_rfl) hS (wanted_free rfl) (fun z hz => by have n2 := hI.at m2 (by kernel_rfl); have e2 := n2; have f2 := n2.eval; unfold At at e2; simp [go_sem, e2]) (fun a' hI' n11' hk => ?_)
    replace n9 := hk _ _ n9 rfl
    have n11 := n11'
    replace hI := hI'
    clear hk hI' n11'
    obtain ⟨act9, rfl⟩ : ∃ x, x = a' := ⟨_, rfl⟩
    refine rest_take (k := 3) (d := 12) (v := .slice a n c) hI rfl rfl (by kernel_rfl) (Nat.lt_of_le_of_lt (by decide) hsz) (by kernel_rfl) hpan (by kernel_rfl) hS (wanted_free rfl) (fun z hz => by have e11 := n11; have f11 := n11.eval; unfold At at e11; have k1 := heap_cell hz (j := 1) rfl; simp [go_sem, e11, k1]) (fun a' hI' n12' hk => ?_)
    replace n9 := hk _ _ n9 rfl
    replace n11 := hk _ _ n11 rfl
    have n12 := n12'
    replace hI := hI'
    clear hk hI' n12'
    obtain ⟨act9, rfl⟩ : ∃ x, x = a' := ⟨_, rfl⟩
    clear n11
    refine rest_take (k := 4) (d := 13) (v := .int .i64 n) hI rfl rfl (by kernel_rfl) (Nat.lt_of_le_of_lt (by decide) hsz) (by kernel_rfl) hpan (by kernel_rfl) hS (wanted_free rfl) (fun z hz => by have e12 := n12; have f12 := n12.eval; unfold At at e12; simp [go_sem, e12]) (fun a' hI' n13' hk => ?_)
    replace n9 := hk _ _ n9 rfl
    replace n12 := hk _ _ n12 rfl
    have n13 := n13'
    replace hI := hI'
    clear hk hI' n13'
    obtain ⟨act9, rfl⟩ : ∃ x, x = a' := ⟨_, rfl⟩
    clear n12
    refine rest_take (k := 5) (d := 14) (v := .bool (decide ((n : Int) < 4))) hI rfl rfl (by kernel_rfl) (Nat.lt_of_le_of_lt (by decide) hsz) (by kernel_rfl) hpan (by kernel_rfl) hS (wanted_free rfl) (fun z hz => by have e13 := n13; have f13 := n13.eval; unfold At at e13; simp [go_sem, e13]) (fun a' hI' n14' hk => ?_)
    replace n9 := hk _ _ n9 rfl
    replace n13 := hk _ _ n13 rfl
    have n14 := n14'
    replace hI := hI'
    clear hk hI' n14'
    obtain ⟨act9, rfl⟩ : ∃ x, x = a' := ⟨_, rfl⟩
    clear n13
    refine rest_only (k := 1) (by kernel_rfl) (op_call (k := 1) (d := 10) (R := fun v w' => v = .int .i64 (Pure.err (Pure.watch h n F) 70) ∧ Below wz.heap.size wz w') hI rfl rfl (by kernel_rfl) (Nat.lt_of_le_of_lt (by decide) hsz) (wanted_free rfl) ((check_any h a n c F (by omega) _ (HP.out.below hq)).mono fun e w' g => ⟨_, g.1, rfl, g.2⟩) (by have e9 := n9; have f9 := n9.eval; unfold At at e9; simp [go_sem, e9]) ?_)
    intro v w' a' hR hI' n10' hk
    obtain ⟨rfl, hb⟩ := hR
    refine ⟨heap_lft hS hb, ?_⟩
    replace n9 := hk _ _ n9 rfl
    replace n14 := hk _ _ n14 rfl
    have n10 := n10'
    replace hI := hI'
    clear hk hI' n10'
    obtain ⟨act9, rfl⟩ : ∃ x, x = a' := ⟨_, rfl⟩
    replace hS := heap_lft hS hb
    replace hq := below_thn hq hb
    clear hb
    obtain ⟨u1, rfl⟩ : ∃ x, x = w' := ⟨_, rfl⟩
    clear n9
    refine rest_only (k := 6) (by kernel_rfl) (op_call (k := 6) (d := 15) (R := fun v w' => v = .int .i64 (Pure.err (decide ((n : Int) < 4)) 9) ∧ u1 = w') hI rfl rfl (by kernel_rfl) (Nat.lt_of_le_of_lt (by decide) hsz) (wanted_free rfl) ((unless_any _ _ _).mono fun e w' g => ⟨_, g.1, rfl, g.2⟩) (by have e14 := n14; have f14 := n14.eval; unfold At at e14; simp [go_sem, e14]) ?_)
    intro v w' a' hR hI' n15' hk
    obtain ⟨rfl, rfl⟩ := hR
    refine ⟨hS, ?_⟩
    replace n14 := hk _ _ n14 rfl
    replace n10 := hk _ _ n10 rfl
    have n15 := n15'
    replace hI := hI'
    clear hk hI' n15'
    obtain ⟨act9, rfl⟩ : ∃ x, x = a' := ⟨_, rfl⟩
    clear n14
    have hn1 := below_new u1 (.cells #[.int .i64 (Pure.err (Pure.watch h n F) 70), .int .i64 (Pure.err (decide ((n : Int) < 4)) 9)] 29)
    have hq1 := below_thn hq hn1
    have hs1 := heap_lft hS hn1
    have hc0 := cells_top u1 #[.int .i64 (Pure.err (Pure.watch h n F) 70), .int .i64 (Pure.err (decide ((n : Int) < 4)) 9)] 29 rfl 0
    have hc1 := cells_top u1 #[.int .i64 (Pure.err (Pure.watch h n F) 70), .int .i64 (Pure.err (decide ((n : Int) < 4)) 9)] 29 rfl 1
    obtain ⟨u2, hu2⟩ : ∃ x, u1.alloc (.cells #[.int .i64 (Pure.err (Pure.watch h n F) 70), .int .i64 (Pure.err (decide ((n : Int) < 4)) 9)] 29) = x := ⟨_, rfl⟩
    rw [hu2] at hn1 hq1 hs1 hc0 hc1
    refine rest_only (k := 7) (by kernel_rfl) (op_value (k := 7) (d := 16) (v := .slice (some ⟨u1.heap.size, 0, none⟩) 2 2) hI rfl rfl (by kernel_rfl) (Nat.lt_of_le_of_lt (by decide) hsz) (wanted_free rfl) (by have e10 := n10; have f10 := n10.eval; unfold At at e10; have e15 := n15; have f15 := n15.eval; unfold At at e15; simp [go_sem, e10, e15]; try rfl) (fun a' hI' n16' hk => ⟨by rw [hu2]; exact hs1, ?_⟩))
    replace n10 := hk _ _ n10 rfl
    replace n15 := hk _ _ n15 rfl
    have n16 := n16'
    replace hI := hI'
    clear hk hI' n16'
    obtain ⟨act9, rfl⟩ : ∃ x, x = a' := ⟨_, rfl⟩
    rw [hu2]
    clear hu2 hS hq hn1
    replace hS := hs1
    replace hq := hq1
    clear hs1 hq1
    clear n10
    clear n15
    refine rest_only (k := 8) (by kernel_rfl) (op_call (k := 8) (d := 17) (R := fun v w' => v = .int .i64 q ∧ Below u2.heap.size u2 w') hI rfl rfl (by kernel_rfl) (Nat.lt_of_le_of_lt (by decide) hsz) (wanted_free rfl) ((firstError2 _ _ _ 2 _ hc0 hc1).mono fun e w' g => ⟨_, g.1, congrArg (Value.int .i64) HQ.out, g.2⟩) (by have e16 := n16; have f16 := n16.eval; unfold At at e16; simp [go_sem, e16]) ?_)
    intro v w' a' hR hI' n17' hk
    obtain ⟨rfl, hb⟩ := hR
    refine ⟨heap_lft hS hb, ?_⟩
    replace n16 := hk _ _ n16 rfl
    have n17 := n17'
    replace hI := hI'
    clear hk hI' n17'
    obtain ⟨act9, rfl⟩ : ∃ x, x = a' := ⟨_, rfl⟩
    replace hS := heap_lft hS hb
    replace hq := below_thn hq hb
    clear hb
    refine rest_take (k := 9) (d := 6) (v := .int .i64 q) hI rfl rfl (by kernel_rfl) (Nat.lt_of_le_of_lt (by decide) hsz) (by kernel_rfl) hpan (by kernel_rfl) hS (wanted_free rfl) (fun z hz => by have e17 := n17; have f17 := n17.eval; unfold At at e17; simp [go_sem, e17]) (fun a' hI' n6' hk => ?_)
    replace n16 := hk _ _ n16 rfl
    replace n17 := hk _ _ n17 rfl
    have n6 := n6'
    replace hI := hI'
    clear hk hI' n6'
    obtain ⟨act9, rfl⟩ : ∃ x, x = a' := ⟨_, rfl⟩
    refine rest_done (by kernel_rfl) ?_
    exact hfin _ _ hI n6 hq
  case rest =>
    obtain ⟨W1, rfl⟩ : ∃ x, x = wc := ⟨_, rfl⟩
    obtain ⟨rfl, hb⟩ := hcut
    have HX1 := Lib.hid (heap_lft HX.out hb)
    have HI1 := Lib.hid (heap_lft HI.out hb)
    have HY1 := Lib.hid (heap_lft HY.out hb)
    have HB1 := Lib.hid (below_thn HB.out hb)
    have HP1 := Lib.hid (HP.out.below hb)
    have HS1 : Hid (w.heap.size + 3 ≤ W1.heap.size) := Lib.hid (by have := hb.size; have := HSZ.out; omega)
    clear hb
    have y0 := heap_cell HY1.out (j := 0) rfl
    have y1 := heap_cell HY1.out (j := 1) rfl
    have f0 := heap_frozen HY1.out 0
    have f1 := heap_frozen HY1.out 1
    by_cases hw : Pure.watch h n F = true
    · by_cases h4 : n < 4
      · have hq0 : q = 0 := by rw [← HQ.out, hw]; simp [Pure.err, show (n : Int) < 4 by omega]
        subst hq0
        have HWT := Lib.hid hw
        have H4 := Lib.hid h4
        clear hw
        have x0 := heap_cell HX1.out (j := 0) rfl
        have x1 := heap_cell HX1.out (j := 1) rfl
        have g0 := heap_frozen HX1.out 0
        have g1 := heap_frozen HX1.out 1
        clear y0 y1 f0 f1
        go_upto_region 4 with fail
        go_wp2_with fail
        refine (copied_any h a n c F (by omega) HZ.out _ HP1.out).mono ?_
        rintro e2 W2 ⟨a1, c1, rfl, ho, hb⟩
        have HX2 := Lib.hid (heap_lft HX1.out hb)
        have HI2 := Lib.hid (heap_lft HI1.out hb)
        have HY2 := Lib.hid (heap_lft HY1.out hb)
        have HB2 := Lib.hid (below_thn HB1.out hb)
        have HO2 := Lib.hid ho
        have HS2 : Hid (W1.heap.size ≤ W2.heap.size) := Lib.hid hb.size
        clear ho hb x0 x1 g0 g1
        have x0 := heap_cell HX2.out (j := 0) rfl
        have x1 := heap_cell HX2.out (j := 1) rfl
        have g0 := heap_frozen HX2.out 0
        have g1 := heap_frozen HX2.out 1
        go_upto_region 5 with fail
        obtain ⟨Z, hZ⟩ : ∃ Z, (W2.setCell ⟨w.heap.size, 0, none⟩ (.int .i64 h)).setCell ⟨w.heap.size, 1, none⟩ (.slice a1 n c1) = Z := ⟨_, rfl⟩
        have hs1 := HS1.out
        have HXZ : Hid (Z.heap[w.heap.size]? = some (watchB h a1 n c1)) := Lib.hid (by rw [← hZ]; exact heap_set (heap_set HX2.out 0 _) 1 _)
        have HIZ : Hid (Z.heap[w.heap.size + 1]? = some (rickB i e d)) := Lib.hid (by rw [← hZ]; exact (Below.heap_setCell _ _ _ _ (by dsimp only; omega)).trans ((Below.heap_setCell _ _ _ _ (by dsimp only; omega)).trans HI2.out))
        have HYZ : Hid (Z.heap[w.heap.size + 1 + 1]? = some (watchB 0 none 0 0)) := Lib.hid (by rw [← hZ]; exact (Below.heap_setCell _ _ _ _ (by dsimp only; omega)).trans ((Below.heap_setCell _ _ _ _ (by dsimp only; omega)).trans HY2.out))
        have HBZ : Hid (Below w.heap.size w Z) := Lib.hid (by rw [← hZ]; exact (HB2.out.setCell (Nat.le_refl _) _).setCell (Nat.le_refl _) _)
        have HOZ : Hid (OwnNums Z W1.heap.size 26 3 a1 n c1 F) := Lib.hid (by rw [← hZ]; exact (HO2.out.set (by dsimp only; omega) _).set (by dsimp only; omega) _)
        have HSS : Hid (Z.heap.size = W2.heap.size) := Lib.hid (by rw [← hZ]; simp)
        try rw [hZ]
        clear hZ x0 x1 g0 g1 hs1
        have x1 := heap_cell HXZ.out (j := 1) rfl
        have i0 := heap_cell HIZ.out (j := 0) rfl
        go_wp2_with fail
        refine (search_any a1 n c1 F i (by omega) (fun m q hm hq => Pure.watch_sort HWT.out q m hm hq) _ HOZ.out.nums).mono ?_
        rintro e2 U ⟨k, bk, rfl, hkn, hlo, hhi, hb⟩
        have HK : Hid (IsPlace F i n k) := Lib.hid ⟨hkn, hlo, hhi⟩
        have HXU := Lib.hid (heap_lft HXZ.out hb)
        have HIU := Lib.hid (heap_lft HIZ.out hb)
        have HYU := Lib.hid (heap_lft HYZ.out hb)
        have HBU := Lib.hid (below_thn HBZ.out hb)
        have HOU := Lib.hid (HOZ.out.below hb)
        have HSU : Hid (Z.heap.size ≤ U.heap.size) := Lib.hid hb.size
        clear hlo hhi hb x1 i0
        obtain ⟨Y, hY⟩ : ∃ Y, U.alloc (rickB i e d) = Y := ⟨_, rfl⟩
        have hby : Below U.heap.size U Y := by rw [← hY]; exact below_new _ _
        have HV : Hid (Y.heap[U.heap.size]? = some (rickB i e d)) := Lib.hid (by rw [← hY]; exact heap_top _ _ rfl)
        have HXY := Lib.hid (heap_lft HXU.out hby)
        have HYY := Lib.hid (heap_lft HYU.out hby)
        have HBY := Lib.hid (below_thn HBU.out hby)
        have HOY := Lib.hid (HOU.out.below hby)
        have HSY : Hid (U.heap.size ≤ Y.heap.size) := Lib.hid hby.size
        clear hby
        have x1 := heap_cell HXU.out (j := 1) rfl
        have i0 := heap_cell HIU.out (j := 0) rfl
        have i1 := heap_cell HIU.out (j := 1) rfl
        have i2 := heap_cell HIU.out (j := 2) rfl
        go_wp2_with fail
        try rw [hY]
        clear hY
        refine (insert_any a1 n c1 F (rowX i e d) W1.heap.size k U.heap.size 1 (by omega) hkn _ i e d HV.out (nums_rick HV.out) (fun x hx => by have := (HOU.out.lt x hx).2; omega) (by have := HSY.out; have := HSU.out; have := HSS.out; have := HS2.out; omega) HOY.out).mono ?_
        rintro e2 X ⟨a2, c2, rfl, ho, hb, hal⟩
        have hs1 := HS1.out
        have HXX : Hid (X.heap[w.heap.size]? = some (watchB h a1 n c1)) := Lib.hid ((hb.block _ (by omega)).trans HXY.out)
        have HYX : Hid (X.heap[w.heap.size + 1 + 1]? = some (watchB 0 none 0 0)) := Lib.hid ((hb.block _ (by omega)).trans HYY.out)
        have HBX : Hid (Below w.heap.size w X) := Lib.hid (HBY.out.trans (hb.mono (by omega)))
        have HOX := Lib.hid ho
        clear ho hb hal x1 i0 i1 i2 hs1
        have x1 := heap_cell HXX.out (j := 1) rfl
        have g1 := heap_frozen HXX.out 1
        go_upto_region 7 with fail
        obtain ⟨M, hM⟩ : ∃ M, X.setCell ⟨w.heap.size, 1, none⟩ (.slice a2 (n + 1) c2) = M := ⟨_, rfl⟩
        have hs1 := HS1.out
        have HXM : Hid (M.heap[w.heap.size]? = some (watchB h a2 (n + 1) c2)) := Lib.hid (by rw [← hM]; exact heap_set HXX.out 1 _)
        have HYM : Hid (M.heap[w.heap.size + 1 + 1]? = some (watchB 0 none 0 0)) := Lib.hid (by rw [← hM]; exact (Below.heap_setCell _ _ _ _ (by dsimp only; omega)).trans HYX.out)
        have HBM : Hid (Below w.heap.size w M) := Lib.hid (by rw [← hM]; exact HBX.out.setCell (Nat.le_refl _) _)
        have HOM : Hid (OwnNums M W1.heap.size 26 3 a2 (n + 1) c2 (Pure.insF F k (rowX i e d))) := Lib.hid (by rw [← hM]; exact HOX.out.set (by dsimp only; omega) _)
        try rw [hM]
        clear hM x1 g1 hs1
        have x0 := heap_cell HXM.out (j := 0) rfl
        have x1 := heap_cell HXM.out (j := 1) rfl
        go_wp2_with fail
        refine (check_any h a2 (n + 1) c2 (Pure.insF F k (rowX i e d)) (by omega) _ HOM.out.nums).mono ?_
        rintro e2 N ⟨rfl, hb⟩
        have HXN := Lib.hid (heap_lft HXM.out hb)
        have HYN := Lib.hid (heap_lft HYM.out hb)
        have HBN := Lib.hid (below_thn HBM.out hb)
        have HON := Lib.hid (HOM.out.below hb)
        clear hb x0 x1
        obtain ⟨r, hr⟩ : ∃ r, Pure.watch h (n + 1) (Pure.insF F k (rowX i e d)) = r := ⟨_, rfl⟩
        rw [hr]
        have HR := Lib.hid hr
        clear hr
        have x0 := heap_cell HXN.out (j := 0) rfl
        have x1 := heap_cell HXN.out (j := 1) rfl
        have y0 := heap_cell HYN.out (j := 0) rfl
        have y1 := heap_cell HYN.out (j := 1) rfl
        have f0 := heap_frozen HYN.out 0
        have f1 := heap_frozen HYN.out 1
        cases r
        · have e1 : (Pure.err false 70 != 0) = true := rfl
          go_wp2_with fail
          refine bodyPost_ret (v := .tuple #[watchV 0 none 0 0, .int .i64 71]) (by simp [results, Try.results6, go_sem, y0, y1]; try rfl) rfl ⟨0, none, 0, 0, 71, rfl, ?_, .inr (.inr ⟨HWT.out, H4.out, k, HK.out, .inl ⟨HR.out, ⟨rfl, rfl, rfl, rfl⟩, rfl⟩⟩)⟩
          repeat (first | with_reducible exact HBN.out | with_reducible refine Below.setCell ?_ (by first | (simp; done) | (dsimp only; omega)) _)
        · have e1 : (Pure.err true 70 != 0) = false := rfl
          go_wp2_with fail
          refine bodyPost_ret (v := .tuple #[watchV h a2 (n + 1) c2, .int .i64 0]) (by simp [results, Try.results6, go_sem, y0, y1]; try rfl) rfl ⟨h, a2, n + 1, c2, 0, rfl, ?_, .inr (.inr ⟨HWT.out, H4.out, k, HK.out, .inr ⟨HR.out, rfl, rfl, rfl, ?_⟩⟩)⟩
          repeat (first | with_reducible exact HBN.out | with_reducible refine Below.setCell ?_ (by first | (simp; done) | (dsimp only; omega)) _)
          have hs1 := HS1.out
          refine OwnNums.base (base := W1.heap.size) ?_ (by omega)
          repeat (first | with_reducible exact HON.out | with_reducible refine OwnNums.set ?_ (by dsimp only; omega) _)
      · have hq0 : q = 9 := by rw [← HQ.out, hw]; simp [Pure.err, show ¬ (n : Int) < 4 by omega]
        subst hq0
        have HWT := Lib.hid hw
        have H4 := Lib.hid h4
        clear hw h4
        go_wp2_with fail
        refine bodyPost_ret (v := .tuple #[watchV 0 none 0 0, .int .i64 9]) (by simp [results, Try.results6, go_sem, y0, y1]; try rfl) rfl ⟨0, none, 0, 0, 9, rfl, ?_, .inr (.inl ⟨HWT.out, (by have := H4.out; omega), ⟨rfl, rfl, rfl, rfl⟩, rfl⟩)⟩
        repeat (first | with_reducible exact HB1.out | with_reducible refine Below.setCell ?_ (by first | (simp; done) | (dsimp only; omega)) _)
    · have hwf : Pure.watch h n F = false := by simpa using hw
      have hq0 : q = 70 := by rw [← HQ.out, hwf]; simp [Pure.err]
      subst hq0
      have HWT := Lib.hid hwf
      clear hw hwf
      go_wp2_with fail
      refine bodyPost_ret (v := .tuple #[watchV 0 none 0 0, .int .i64 70]) (by simp [results, Try.results6, go_sem, y0, y1]; try rfl) rfl ⟨0, none, 0, 0, 70, rfl, ?_, .inl ⟨HWT.out, ⟨rfl, rfl, rfl, rfl⟩, rfl⟩⟩
      repeat (first | with_reducible exact HB1.out | with_reducible refine Below.setCell ?_ (by first | (simp; done) | (dsimp only; omega)) _)

end Go.Proofs.Ytknpdjbokgenpab
