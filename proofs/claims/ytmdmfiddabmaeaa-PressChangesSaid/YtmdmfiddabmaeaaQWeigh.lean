/-
  The contract of Weigh.
-/
import Derived.Test.YtmdmfiddabmaeaaQLeft
import Derived.Test.YtmdmfiddabmaeaaQInsert
import Derived.Test.YtmdmfiddabmaeaaQSearch
import Derived.Test.YtmdmfiddabmaeaaRest
namespace Go.Proofs.Ytmdmfiddabmaeaa
open Go.RowKit

namespace Pure
theorem press_sorted {n : Nat} {F : Nat → Int} {m : Nat} {G : Nat → Int} (h : press n F m G = true) : ∀ i j, i < j → j < m → G (i * 5) < G (j * 5) := by
  unfold press at h
  simp only [Bool.and_eq_true] at h
  have h1 := of_decide_eq_true h.2
  intro i j hij hj
  induction j with
  | zero => omega
  | succ j ih =>
    have h2 := of_decide_eq_true (h1 j (by omega))
    by_cases e : i = j
    · subst e; exact h2
    · exact Int.lt_trans (ih (by omega) (by omega)) h2
theorem press_few {n : Nat} {F : Nat → Int} {m : Nat} {G : Nat → Int} (h : press n F m G = true) : n ≤ 10 ∧ m ≤ 30 := by
  unfold press fewP at h
  simp only [Bool.and_eq_true, decide_eq_true_eq] at h
  omega
end Pure
/-- The place of a number among the weighings. -/
structure IsPlace (G : Nat → Int) (x : Int) (m k : Nat) : Prop where
  le : k ≤ m
  lo : ∀ j, j < k → G (j * 5) < x
  hi : ∀ j, k ≤ j → j < m → x ≤ G (j * 5)
theorem IsPlace.same {G : Nat → Int} {x : Int} {m k k' : Nat} (h : IsPlace G x m k) (h' : IsPlace G x m k') : k = k' := by
  rcases Nat.lt_trichotomy k k' with g | g | g
  · have h1 := h'.lo k g
    have h2 := h.hi k (Nat.le_refl _) (Nat.lt_of_lt_of_le g h'.le)
    omega
  · exact g
  · have h1 := h.lo k' g
    have h2 := h'.hi k' (Nat.le_refl _) (Nat.lt_of_lt_of_le g h.le)
    omega
/-- The numbers of one weighing. -/
def rowN (x0 x1 x2 x3 x4 : Int) : Nat → Int := fun q => if q = 0 then x0 else if q = 1 then x1 else if q = 2 then x2 else if q = 3 then x3 else x4
theorem nums_row5 {w : World} {v : Nat} {x0 x1 x2 x3 x4 : Int} (h : w.heap[v]? = some (noteB x0 x1 x2 x3 x4)) : NumsAt w (some ⟨v, 0, none⟩) (1 * 5) (rowN x0 x1 x2 x3 x4) := by
  intro q hq
  refine ⟨v, 0, rfl, ?_⟩
  have hq5 : q = 0 ∨ q = 1 ∨ q = 2 ∨ q = 3 ∨ q = 4 := by omega
  rcases hq5 with rfl | rfl | rfl | rfl | rfl <;> exact heap_cell h rfl
/-- What Weigh gives. -/
def WeighOut (n : Nat) (F : Nat → Int) (m : Nat) (G : Nat → Int) (x0 x1 x2 x3 x4 : Int) (w : World) (e : Ending) (w' : World) : Prop :=
  ∃ a1 n1 c1 a2 n2 c2 q, e = .returned (.tuple #[pressV a1 n1 c1 a2 n2 c2, .int .i64 q]) ∧ Below w.heap.size w w' ∧
    ((q ≠ 0 ∧ a1 = none ∧ n1 = 0 ∧ c1 = 0 ∧ a2 = none ∧ n2 = 0 ∧ c2 = 0 ∧
        (Pure.press n F m G = false ∧ q = 20 ∨ Pure.press n F m G = true ∧ ¬ m < 30 ∧ q = 9 ∨
         Pure.press n F m G = true ∧ m < 30 ∧ q = 21 ∧ ∃ k, IsPlace G x0 m k ∧ Pure.press n F (m + 1) (Pure.insF G k (rowN x0 x1 x2 x3 x4)) = false)) ∨
     (q = 0 ∧ n1 = n ∧ n2 = m + 1 ∧ Pure.press n F m G = true ∧ m < 30 ∧ ∃ k, IsPlace G x0 m k ∧ Pure.press n F (m + 1) (Pure.insF G k (rowN x0 x1 x2 x3 x4)) = true ∧
        OwnNums w' w.heap.size 45 4 a1 n c1 F ∧ OwnNums w' w.heap.size 29 5 a2 (m + 1) c2 (Pure.insF G k (rowN x0 x1 x2 x3 x4))))

set_option maxHeartbeats 8000000 in
set_option maxRecDepth 100000 in
theorem weigh_any (a : Option Addr) (n c : Nat) (b : Option Addr) (m d : Nat) (F G : Nat → Int) (x0 x1 x2 x3 x4 : Int) (hn : n ≤ 60) (hm : m ≤ 60) (hnil : a = none → n = 0 ∧ c = 0) (wG : ∀ i, i < m → (Lit.int .i64 (G (i * 5))).wf = true) (w : World) (hF : NumsAt w a (n * 4) F) (hG : NumsAt w b (m * 5) G) :
    Calls Try.prog 6 #[pressV a n c b m d, noteV x0 x1 x2 x3 x4] w (WeighOut n F m G x0 x1 x2 x3 x4 w) := by
  obtain ⟨W, hW⟩ : ∃ W, ((w.alloc (pressB a n c b m d)).alloc (noteB x0 x1 x2 x3 x4)).alloc (pressB none 0 0 none 0 0) = W := ⟨_, rfl⟩
  have HB : Hid (Below w.heap.size w W) := Lib.hid (by rw [← hW]; exact ((below_new _ _).alloc (by simp) _).alloc (by simp; omega) _)
  have HX : Hid (W.heap[w.heap.size]? = some (pressB a n c b m d)) := Lib.hid (by rw [← hW]; exact heap_up (heap_up (heap_top _ _ rfl) _) _)
  have HI : Hid (W.heap[w.heap.size + 1]? = some (noteB x0 x1 x2 x3 x4)) := Lib.hid (by rw [← hW]; exact heap_up (heap_top _ _ (by simp)) _)
  have HY : Hid (W.heap[w.heap.size + 1 + 1]? = some (pressB none 0 0 none 0 0)) := Lib.hid (by rw [← hW]; exact heap_top _ _ (by simp))
  have HSZ : Hid (W.heap.size = w.heap.size + 3) := Lib.hid (by rw [← hW]; simp)
  have HF := Lib.hid (hF.below HB.out)
  have HG := Lib.hid (hG.below HB.out)
  have HN := Lib.hid hnil
  have HWG := Lib.hid wG
  clear hF hG hnil wG
  obtain ⟨q, hq⟩ : ∃ q, (if (Pure.err (Pure.press n F m G) 20) = 0 then (Pure.err (decide ((m : Int) < 30)) 9) else (Pure.err (Pure.press n F m G) 20)) = q := ⟨_, rfl⟩
  have HQ := Lib.hid hq
  clear hq
  go_enter Try.func6, Try.ntmps6
  go_upto_region 1 with fail
  try rw [hW]
  clear hW
  go_cut [6] from 10 to 18 (fun s wx => s = .int .i64 q ∧ Below W.heap.size W wx)
  case first =>
    rename_i J K' hJ hK'
    generalize hA : (Act.mk _ _ : Act) = a0
    have m2 : At a0 2 (.pointer (some ⟨w.heap.size, 0, none⟩)) := by rw [← hA]; rfl
    have hsz : 18 < a0.tmps.size := by rw [← hA]; exact of_decide_eq_true (by kernel_rfl)
    have hfin : ∀ a' w', Kept (6 :: List.range' 10 9) a0 a' → At a' 6 (.int .i64 q) → (Below W.heap.size W w') → K' a' w' := by
      intro a' w' hI hv6 hL
      refine hK' _ _ (Met.intro (hJ _ _ ⟨a'.tmps.getD 6 undef, a'.tmps.getD 10 undef, a'.tmps.getD 11 undef, a'.tmps.getD 12 undef, a'.tmps.getD 13 undef, a'.tmps.getD 14 undef, a'.tmps.getD 15 undef, a'.tmps.getD 16 undef, a'.tmps.getD 17 undef, a'.tmps.getD 18 undef, ⟨by have g := hv6; unfold At at g; rw [Array.getD_eq_getD_getElem?, g]; rfl, hL⟩, hI.eq.trans ?_⟩))
      rw [← hA]
      kernel_rfl
    have hI : Kept (6 :: List.range' 10 9) a0 a0 := Kept.refl _ _
    clear hA hJ hK' J
    refine with_pan (fun d _ _ _ _ h => by cases d <;> exact h) ?_
    intro hpan
    refine wp_region_rest (fun z => z.heap[w.heap.size]? = some (pressB a n c b m d)) (by kernel_rfl) ?_
    obtain ⟨wz, hwz⟩ : ∃ x, W.drew = x := ⟨_, rfl⟩
    change Rest _ _ _ _ _ _ _ (W.drew)
    rw [hwz]
    have hq : Below W.heap.size W wz := by rw [← hwz]; exact (Below.refl _ _).drew
    clear hwz
    have hS := heap_lft HX.out hq
    refine rest_take (k := 0) (d := 10) (v := pressV a n c b m d) hI rfl rfl (by kernel_rfl) (Nat.lt_of_le_of_lt (by decide) hsz) (by kernel_rfl) hpan (by kernel_rfl) hS (wanted_free rfl) (fun z hz => by have n2 := hI.at m2 (by kernel_rfl); have e2 := n2; have f2 := n2.eval; unfold At at e2; have k0 := heap_cell hz (j := 0) rfl; have k1 := heap_cell hz (j := 1) rfl; simp [go_sem, BigFrame.eval_const, BigFrame.eval_global, BigFrame.eval_func, e2, f2, k0, k1]) (fun a' hI' n10' hk => ?_)
    have n10 := n10'
    replace hI := hI'
    clear hk hI' n10'
    obtain ⟨act9, rfl⟩ : ∃ x, x = a' := ⟨_, rfl⟩
    refine rest_take (k := 2) (d := 12) (v := .pointer (some ⟨w.heap.size, 1, none⟩)) hI rfl rfl (by kernel_rfl) (Nat.lt_of_le_of_lt (by decide) hsz) (by kernel_rfl) hpan (by kernel_rfl) hS (wanted_free rfl) (fun z hz => by have n2 := hI.at m2 (by kernel_rfl); have e2 := n2; have f2 := n2.eval; unfold At at e2; simp [go_sem, BigFrame.eval_const, BigFrame.eval_global, BigFrame.eval_func, e2, f2]) (fun a' hI' n12' hk => ?_)
    replace n10 := hk _ _ n10 rfl
    have n12 := n12'
    replace hI := hI'
    clear hk hI' n12'
    obtain ⟨act9, rfl⟩ : ∃ x, x = a' := ⟨_, rfl⟩
    refine rest_take (k := 3) (d := 13) (v := .slice b m d) hI rfl rfl (by kernel_rfl) (Nat.lt_of_le_of_lt (by decide) hsz) (by kernel_rfl) hpan (by kernel_rfl) hS (wanted_free rfl) (fun z hz => by have e12 := n12; have f12 := n12.eval; unfold At at e12; have k1 := heap_cell hz (j := 1) rfl; simp [go_sem, BigFrame.eval_const, BigFrame.eval_global, BigFrame.eval_func, e12, f12, k1]) (fun a' hI' n13' hk => ?_)
    replace n10 := hk _ _ n10 rfl
    replace n12 := hk _ _ n12 rfl
    have n13 := n13'
    replace hI := hI'
    clear hk hI' n13'
    obtain ⟨act9, rfl⟩ : ∃ x, x = a' := ⟨_, rfl⟩
    clear n12
    refine rest_take (k := 4) (d := 14) (v := .int .i64 m) hI rfl rfl (by kernel_rfl) (Nat.lt_of_le_of_lt (by decide) hsz) (by kernel_rfl) hpan (by kernel_rfl) hS (wanted_free rfl) (fun z hz => by have e13 := n13; have f13 := n13.eval; unfold At at e13; simp [go_sem, BigFrame.eval_const, BigFrame.eval_global, BigFrame.eval_func, e13, f13]) (fun a' hI' n14' hk => ?_)
    replace n10 := hk _ _ n10 rfl
    replace n13 := hk _ _ n13 rfl
    have n14 := n14'
    replace hI := hI'
    clear hk hI' n14'
    obtain ⟨act9, rfl⟩ : ∃ x, x = a' := ⟨_, rfl⟩
    clear n13
    refine rest_take (k := 5) (d := 15) (v := .bool (decide ((m : Int) < 30))) hI rfl rfl (by kernel_rfl) (Nat.lt_of_le_of_lt (by decide) hsz) (by kernel_rfl) hpan (by kernel_rfl) hS (wanted_free rfl) (fun z hz => by have e14 := n14; have f14 := n14.eval; unfold At at e14; simp [go_sem, BigFrame.eval_const, BigFrame.eval_global, BigFrame.eval_func, e14, f14]) (fun a' hI' n15' hk => ?_)
    replace n10 := hk _ _ n10 rfl
    replace n14 := hk _ _ n14 rfl
    have n15 := n15'
    replace hI := hI'
    clear hk hI' n15'
    obtain ⟨act9, rfl⟩ : ∃ x, x = a' := ⟨_, rfl⟩
    clear n14
    refine rest_only (k := 1) (by kernel_rfl) (op_call (k := 1) (d := 11) (R := fun v w' => v = .int .i64 (Pure.err (Pure.press n F m G) 20) ∧ Below wz.heap.size wz w') hI rfl rfl (by kernel_rfl) (Nat.lt_of_le_of_lt (by decide) hsz) (wanted_free rfl) ((check_any a n c b m d F G hn hm _ (HF.out.below hq) (HG.out.below hq)).mono fun e w' g => ⟨_, g.1, rfl, g.2⟩) (by have e10 := n10; have f10 := n10.eval; unfold At at e10; simp [go_sem, BigFrame.eval_const, BigFrame.eval_global, BigFrame.eval_func, e10, f10]) ?_)
    intro v w' a' hR hI' n11' hk
    obtain ⟨rfl, hb⟩ := hR
    refine ⟨heap_lft hS hb, ?_⟩
    replace n10 := hk _ _ n10 rfl
    replace n15 := hk _ _ n15 rfl
    have n11 := n11'
    replace hI := hI'
    clear hk hI' n11'
    obtain ⟨act9, rfl⟩ : ∃ x, x = a' := ⟨_, rfl⟩
    replace hS := heap_lft hS hb
    replace hq := below_thn hq hb
    clear hb
    obtain ⟨u1, rfl⟩ : ∃ x, x = w' := ⟨_, rfl⟩
    clear n10
    refine rest_only (k := 6) (by kernel_rfl) (op_call (k := 6) (d := 16) (R := fun v w' => v = .int .i64 (Pure.err (decide ((m : Int) < 30)) 9) ∧ u1 = w') hI rfl rfl (by kernel_rfl) (Nat.lt_of_le_of_lt (by decide) hsz) (wanted_free rfl) ((unless_any _ _ _).mono fun e w' g => ⟨_, g.1, rfl, g.2⟩) (by have e15 := n15; have f15 := n15.eval; unfold At at e15; simp [go_sem, BigFrame.eval_const, BigFrame.eval_global, BigFrame.eval_func, e15, f15]) ?_)
    intro v w' a' hR hI' n16' hk
    obtain ⟨rfl, rfl⟩ := hR
    refine ⟨hS, ?_⟩
    replace n15 := hk _ _ n15 rfl
    replace n11 := hk _ _ n11 rfl
    have n16 := n16'
    replace hI := hI'
    clear hk hI' n16'
    obtain ⟨act9, rfl⟩ : ∃ x, x = a' := ⟨_, rfl⟩
    clear n15
    have hn1 := below_new u1 (.cells #[.int .i64 (Pure.err (Pure.press n F m G) 20), .int .i64 (Pure.err (decide ((m : Int) < 30)) 9)] 33)
    have hq1 := below_thn hq hn1
    have hs1 := heap_lft hS hn1
    have hc0 := cells_top u1 #[.int .i64 (Pure.err (Pure.press n F m G) 20), .int .i64 (Pure.err (decide ((m : Int) < 30)) 9)] 33 rfl 0
    have hc1 := cells_top u1 #[.int .i64 (Pure.err (Pure.press n F m G) 20), .int .i64 (Pure.err (decide ((m : Int) < 30)) 9)] 33 rfl 1
    obtain ⟨u2, hu2⟩ : ∃ x, u1.alloc (.cells #[.int .i64 (Pure.err (Pure.press n F m G) 20), .int .i64 (Pure.err (decide ((m : Int) < 30)) 9)] 33) = x := ⟨_, rfl⟩
    rw [hu2] at hn1 hq1 hs1 hc0 hc1
    refine rest_only (k := 7) (by kernel_rfl) (op_value (k := 7) (d := 17) (v := .slice (some ⟨u1.heap.size, 0, none⟩) 2 2) hI rfl rfl (by kernel_rfl) (Nat.lt_of_le_of_lt (by decide) hsz) (wanted_free rfl) (by have e11 := n11; have f11 := n11.eval; unfold At at e11; have e16 := n16; have f16 := n16.eval; unfold At at e16; simp [go_sem, BigFrame.eval_const, BigFrame.eval_global, BigFrame.eval_func, e11, f11, e16, f16]; try rfl) (fun a' hI' n17' hk => ⟨by rw [hu2]; exact hs1, ?_⟩))
    replace n11 := hk _ _ n11 rfl
    replace n16 := hk _ _ n16 rfl
    have n17 := n17'
    replace hI := hI'
    clear hk hI' n17'
    obtain ⟨act9, rfl⟩ : ∃ x, x = a' := ⟨_, rfl⟩
    rw [hu2]
    clear hu2 hS hq hn1
    replace hS := hs1
    replace hq := hq1
    clear hs1 hq1
    clear n11
    clear n16
    refine rest_only (k := 8) (by kernel_rfl) (op_call (k := 8) (d := 18) (R := fun v w' => v = .int .i64 q ∧ u2 = w') hI rfl rfl (by kernel_rfl) (Nat.lt_of_le_of_lt (by decide) hsz) (wanted_free rfl) ((firstError2 _ _ _ 2 _ hc0 hc1).mono fun e w' g => ⟨_, g.1, congrArg (Value.int .i64) HQ.out, g.2⟩) (by have e17 := n17; have f17 := n17.eval; unfold At at e17; simp [go_sem, BigFrame.eval_const, BigFrame.eval_global, BigFrame.eval_func, e17, f17]) ?_)
    intro v w' a' hR hI' n18' hk
    obtain ⟨rfl, rfl⟩ := hR
    refine ⟨hS, ?_⟩
    replace n17 := hk _ _ n17 rfl
    have n18 := n18'
    replace hI := hI'
    clear hk hI' n18'
    obtain ⟨act9, rfl⟩ : ∃ x, x = a' := ⟨_, rfl⟩
    refine rest_take (k := 9) (d := 6) (v := .int .i64 q) hI rfl rfl (by kernel_rfl) (Nat.lt_of_le_of_lt (by decide) hsz) (by kernel_rfl) hpan (by kernel_rfl) hS (wanted_free rfl) (fun z hz => by have e18 := n18; have f18 := n18.eval; unfold At at e18; simp [go_sem, BigFrame.eval_const, BigFrame.eval_global, BigFrame.eval_func, e18, f18]) (fun a' hI' n6' hk => ?_)
    replace n17 := hk _ _ n17 rfl
    replace n18 := hk _ _ n18 rfl
    have n6 := n6'
    replace hI := hI'
    clear hk hI' n6'
    obtain ⟨act9, rfl⟩ : ∃ x, x = a' := ⟨_, rfl⟩
    refine rest_done (by kernel_rfl) ?_
    exact hfin _ _ hI n6 hq
  case rest =>
    obtain ⟨W1, rfl⟩ : ∃ x, x = wc := ⟨_, rfl⟩
    obtain ⟨rfl, hb⟩ := hcut
    have HX1 := Lib.hid (heap_lft HX.out hb)
    have HI1 := Lib.hid (heap_lft HI.out hb)
    have HY1 := Lib.hid (heap_lft HY.out hb)
    have HB1 := Lib.hid (below_thn HB.out hb)
    have HF1 := Lib.hid (HF.out.below hb)
    have HG1 := Lib.hid (HG.out.below hb)
    have HS1 : Hid (w.heap.size + 3 ≤ W1.heap.size) := Lib.hid (by have := hb.size; have := HSZ.out; omega)
    clear hb
    by_cases hw : Pure.press n F m G = true
    · by_cases h4 : m < 30
      · have hq0 : q = 0 := by rw [← HQ.out, hw]; simp [Pure.err, show (m : Int) < 30 by omega]
        subst hq0
        have HWT := Lib.hid hw
        have H4 := Lib.hid h4
        clear hw
        have hfew := Pure.press_few HWT.out
        have p0 := heap_cell HX1.out (j := 0) rfl
        have p1 := heap_cell HX1.out (j := 1) rfl
        go_wp2_with fail
        refine (copy_any a n c b m d F G (by omega) hm HN.out HWG.out _ HF1.out HG1.out).mono ?_
        rintro e W2 ⟨a1, c1, a2, c2, rfl, ho1, ho2, hap, hb⟩
        have HAP := Lib.hid hap
        have HI2 := Lib.hid (heap_lft HI1.out hb)
        have HY2 := Lib.hid (heap_lft HY1.out hb)
        have HB2 := Lib.hid (below_thn HB1.out hb)
        have HO1 := Lib.hid ho1
        have HO2 := Lib.hid ho2
        have HS2 : Hid (W1.heap.size ≤ W2.heap.size) := Lib.hid hb.size
        clear ho1 ho2 hap hb p0 p1
        go_upto_region 5 with fail
        obtain ⟨V, hV⟩ : ∃ V, W2.alloc (pressB a1 n c1 a2 m c2) = V := ⟨_, rfl⟩
        have hbv : Below W2.heap.size W2 V := by rw [← hV]; exact below_new _ _
        have HQV : Hid (V.heap[W2.heap.size]? = some (pressB a1 n c1 a2 m c2)) := Lib.hid (by rw [← hV]; exact heap_top _ _ rfl)
        have HSV : Hid (V.heap.size = W2.heap.size + 1) := Lib.hid (by rw [← hV]; simp)
        have HIV := Lib.hid (heap_lft HI2.out hbv)
        have HYV := Lib.hid (heap_lft HY2.out hbv)
        have HBV := Lib.hid (below_thn HB2.out hbv)
        have HO1V := Lib.hid (HO1.out.below hbv)
        have HO2V := Lib.hid (HO2.out.below hbv)
        try rw [hV]
        clear hV hbv
        have v1 := heap_cell HQV.out (j := 1) rfl
        have i0 := heap_cell HIV.out (j := 0) rfl
        go_wp2_with fail
        refine (search_any a2 m c2 G x0 (by omega) (fun i j h1 h2 => Pure.press_sorted HWT.out i j h1 h2) _ HO2V.out.nums).mono ?_
        rintro e U ⟨k, bb, rfl, hk1, hk2, hk3, hb⟩
        have HK : Hid (IsPlace G x0 m k) := Lib.hid ⟨hk1, hk2, hk3⟩
        have HQU := Lib.hid (heap_lft HQV.out hb)
        have HIU := Lib.hid (heap_lft HIV.out hb)
        have HYU := Lib.hid (heap_lft HYV.out hb)
        have HBU := Lib.hid (below_thn HBV.out hb)
        have HO1U := Lib.hid (HO1V.out.below hb)
        have HO2U := Lib.hid (HO2V.out.below hb)
        have HSU : Hid (W2.heap.size + 1 ≤ U.heap.size) := Lib.hid (by have := hb.size; have := HSV.out; omega)
        clear hk1 hk2 hk3 hb v1 i0
        go_upto_region 6 with fail
        have u1 := heap_cell HQU.out (j := 1) rfl
        have i0 := heap_cell HIU.out (j := 0) rfl
        have i1 := heap_cell HIU.out (j := 1) rfl
        have i2 := heap_cell HIU.out (j := 2) rfl
        have i3 := heap_cell HIU.out (j := 3) rfl
        have i4 := heap_cell HIU.out (j := 4) rfl
        go_wp2_with fail
        obtain ⟨Y, hY⟩ : ∃ Y, U.alloc (noteB x0 x1 x2 x3 x4) = Y := ⟨_, rfl⟩
        have hby : Below U.heap.size U Y := by rw [← hY]; exact below_new _ _
        have HVY : Hid (Y.heap[U.heap.size]? = some (noteB x0 x1 x2 x3 x4)) := Lib.hid (by rw [← hY]; exact heap_top _ _ rfl)
        have HQY := Lib.hid (heap_lft HQU.out hby)
        have HYY := Lib.hid (heap_lft HYU.out hby)
        have HBY := Lib.hid (below_thn HBU.out hby)
        have HO1Y := Lib.hid (HO1U.out.below hby)
        have HO2Y := Lib.hid (HO2U.out.below hby)
        have HSY : Hid (U.heap.size ≤ Y.heap.size) := Lib.hid hby.size
        try rw [hY]
        clear hY hby u1 i0 i1 i2 i3 i4
        have hs1 := HS1.out
        have hs2 := HS2.out
        have hsu := HSU.out
        have hsy := HSY.out
        refine (insert_any a2 m c2 G (rowN x0 x1 x2 x3 x4) W1.heap.size k U.heap.size 1 (by omega) HK.out.le _ x0 x1 x2 x3 x4 HVY.out (nums_row5 HVY.out) (fun x hx e => by have := (HO2U.out.lt x hx).2; omega) (by omega) HO2Y.out).mono ?_
        rintro e Z ⟨a4, c4, rfl, ho, hb, hal⟩
        have hq2 : ∀ x, a2 = some x → W2.heap.size ≠ x.block := fun x hx e => by have := (HO2.out.lt x hx).2; omega
        have HQZ : Hid (Z.heap[W2.heap.size]? = some (pressB a1 n c1 a2 m c2)) := Lib.hid ((hal W2.heap.size (by omega) hq2).trans HQY.out)
        have HYZ : Hid (Z.heap[w.heap.size + 1 + 1]? = some (pressB none 0 0 none 0 0)) := Lib.hid ((hb.block _ (by omega)).trans HYY.out)
        have HBZ : Hid (Below w.heap.size w Z) := Lib.hid (HBY.out.trans (hb.mono (by omega)))
        have HO1Z := Lib.hid (HO1Y.out.kept (fun x hx => hal _ (HO1Y.out.lt x hx).2 (fun y hy e => HAP.out y x hy hx e.symm)))
        have HO4Z := Lib.hid ho
        clear hq2 ho hb hal
        have q1 := heap_cell HQZ.out (j := 1) rfl
        have g1 := heap_frozen HQZ.out 1
        go_upto_region 7 with fail
        obtain ⟨M, hM⟩ : ∃ M, Z.setCell ⟨W2.heap.size, 1, none⟩ (.slice a4 (m + 1) c4) = M := ⟨_, rfl⟩
        have HQM : Hid (M.heap[W2.heap.size]? = some (pressB a1 n c1 a4 (m + 1) c4)) := Lib.hid (by rw [← hM]; exact heap_set HQZ.out 1 _)
        have HYM : Hid (M.heap[w.heap.size + 1 + 1]? = some (pressB none 0 0 none 0 0)) := Lib.hid (by rw [← hM]; exact (Below.heap_setCell _ _ _ _ (by dsimp only; omega)).trans HYZ.out)
        have HBM : Hid (Below w.heap.size w M) := Lib.hid (by rw [← hM]; exact HBZ.out.setCell (by dsimp only; omega) _)
        have HO1M := Lib.hid (HO1Z.out.kept (w' := M) (fun x hx => by rw [← hM]; exact Below.heap_setCell _ _ _ _ (HO1Z.out.ne HQZ.out (by decide) x hx)))
        have HO4M := Lib.hid (HO4Z.out.kept (w' := M) (fun x hx => by rw [← hM]; exact Below.heap_setCell _ _ _ _ (HO4Z.out.ne HQZ.out (by decide) x hx)))
        try rw [hM]
        clear hM q1 g1
        have q0 := heap_cell HQM.out (j := 0) rfl
        have q1 := heap_cell HQM.out (j := 1) rfl
        go_wp2_with fail
        refine (valid_any a1 n c1 a4 (m + 1) c4 21 F (Pure.insF G k (rowN x0 x1 x2 x3 x4)) (by omega) (by omega) _ HO1M.out.nums HO4M.out.nums).mono ?_
        rintro e N ⟨rfl, hb⟩
        have HYN := Lib.hid (heap_lft HYM.out hb)
        have HBN := Lib.hid (below_thn HBM.out hb)
        have HO1N := Lib.hid (HO1M.out.below hb)
        have HO4N := Lib.hid (HO4M.out.below hb)
        clear hb q0 q1
        have y0 := heap_cell HYN.out (j := 0) rfl
        have y1 := heap_cell HYN.out (j := 1) rfl
        have f0 := heap_frozen HYN.out 0
        have f1 := heap_frozen HYN.out 1
        obtain ⟨r, hr⟩ : ∃ r, Pure.press n F (m + 1) (Pure.insF G k (rowN x0 x1 x2 x3 x4)) = r := ⟨_, rfl⟩
        rw [hr]
        have HR := Lib.hid hr
        clear hr
        cases r
        · go_wp2_with fail
          refine bodyPost_ret (v := .tuple #[pressV none 0 0 none 0 0, .int .i64 21]) (by simp [results, Try.results6, go_sem, y0, y1]; try rfl) rfl ⟨none, 0, 0, none, 0, 0, 21, rfl, ?_, .inl ⟨by decide, rfl, rfl, rfl, rfl, rfl, rfl, .inr (.inr ⟨HWT.out, H4.out, rfl, k, HK.out, HR.out⟩)⟩⟩
          repeat (first | with_reducible exact HBN.out | with_reducible refine Below.setCell ?_ (by first | (simp; done) | (dsimp only; omega)) _)
        · go_wp2_with fail
          refine bodyPost_ret (v := .tuple #[pressV a1 n c1 a4 (m + 1) c4, .int .i64 0]) (by simp [results, Try.results6, go_sem, y0, y1]; try rfl) rfl ⟨a1, n, c1, a4, m + 1, c4, 0, rfl, ?_, .inr ⟨rfl, rfl, rfl, HWT.out, H4.out, k, HK.out, HR.out, ?_, ?_⟩⟩
          · repeat (first | with_reducible exact HBN.out | with_reducible refine Below.setCell ?_ (by first | (simp; done) | (dsimp only; omega)) _)
          · refine OwnNums.base (base := W1.heap.size) ?_ (by omega)
            repeat (first | with_reducible exact HO1N.out | with_reducible refine OwnNums.set ?_ (by first | (simp; omega) | (dsimp only; omega)) _)
          · refine OwnNums.base (base := W1.heap.size) ?_ (by omega)
            repeat (first | with_reducible exact HO4N.out | with_reducible refine OwnNums.set ?_ (by first | (simp; omega) | (dsimp only; omega)) _)
      · have hq0 : q = 9 := by rw [← HQ.out, hw]; simp [Pure.err, show ¬ (m : Int) < 30 by omega]
        subst hq0
        have HWT := Lib.hid hw
        have H4 := Lib.hid h4
        clear hw h4
        have y0 := heap_cell HY1.out (j := 0) rfl
        have y1 := heap_cell HY1.out (j := 1) rfl
        have f0 := heap_frozen HY1.out 0
        have f1 := heap_frozen HY1.out 1
        go_wp2_with fail
        refine bodyPost_ret (v := .tuple #[pressV none 0 0 none 0 0, .int .i64 9]) (by simp [results, Try.results6, go_sem, y0, y1]; try rfl) rfl ⟨none, 0, 0, none, 0, 0, 9, rfl, ?_, .inl ⟨by decide, rfl, rfl, rfl, rfl, rfl, rfl, .inr (.inl ⟨HWT.out, H4.out, rfl⟩)⟩⟩
        repeat (first | with_reducible exact HB1.out | with_reducible refine Below.setCell ?_ (by first | (simp; done) | (dsimp only; omega)) _)
    · have hwf : Pure.press n F m G = false := by simpa using hw
      have hq0 : q = 20 := by rw [← HQ.out, hwf]; simp [Pure.err]
      subst hq0
      have HWT := Lib.hid hwf
      clear hw hwf
      have y0 := heap_cell HY1.out (j := 0) rfl
      have y1 := heap_cell HY1.out (j := 1) rfl
      have f0 := heap_frozen HY1.out 0
      have f1 := heap_frozen HY1.out 1
      go_wp2_with fail
      refine bodyPost_ret (v := .tuple #[pressV none 0 0 none 0 0, .int .i64 20]) (by simp [results, Try.results6, go_sem, y0, y1]; try rfl) rfl ⟨none, 0, 0, none, 0, 0, 20, rfl, ?_, .inl ⟨by decide, rfl, rfl, rfl, rfl, rfl, rfl, .inl ⟨HWT.out, rfl⟩⟩⟩
      repeat (first | with_reducible exact HB1.out | with_reducible refine Below.setCell ?_ (by first | (simp; done) | (dsimp only; omega)) _)
end Go.Proofs.Ytmdmfiddabmaeaa
