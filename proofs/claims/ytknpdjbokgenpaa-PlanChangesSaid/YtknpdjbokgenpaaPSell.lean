/-
  What Sell and Land give, and the contract of the program's Sell.
-/
import Derived.Test.YtknpdjbokgenpaaPInsert
namespace Go.Proofs.Ytknpdjbokgenpaa
open Go.RowKit

/-- The place of an Id among Ids that rise. -/
structure IsPlace (F : Nat → Int) (x : Int) (n k : Nat) : Prop where
  le : k ≤ n
  lo : ∀ m, m < k → F (m * 4) < x
  hi : ∀ m, k ≤ m → m < n → x ≤ F (m * 4)
theorem IsPlace.same {F : Nat → Int} {x : Int} {n k k' : Nat} (h : IsPlace F x n k) (h' : IsPlace F x n k') : k = k' := by
  rcases Nat.lt_trichotomy k k' with g | g | g
  · have h1 := h'.lo k g
    have h2 := h.hi k (Nat.le_refl _) (Nat.lt_of_lt_of_le g h'.le)
    omega
  · exact g
  · have h1 := h.lo k' g
    have h2 := h'.hi k' (Nat.le_refl _) (Nat.lt_of_lt_of_le g h.le)
    omega
/-- The place of a day among days that do not fall: behind those that are the same. -/
structure IsPlaceA (F : Nat → Int) (x : Int) (n k : Nat) : Prop where
  le : k ≤ n
  lo : ∀ m, m < k → F (m * 2) ≤ x
  hi : ∀ m, k ≤ m → m < n → x < F (m * 2)
theorem IsPlaceA.same {F : Nat → Int} {x : Int} {n k k' : Nat} (h : IsPlaceA F x n k) (h' : IsPlaceA F x n k') : k = k' := by
  rcases Nat.lt_trichotomy k k' with g | g | g
  · have h1 := h'.lo k g
    have h2 := h.hi k (Nat.le_refl _) (Nat.lt_of_lt_of_le g h'.le)
    omega
  · exact g
  · have h1 := h.lo k' g
    have h2 := h'.hi k' (Nat.le_refl _) (Nat.lt_of_lt_of_le g h.le)
    omega
/-- The numbers of one sale, of one arrival. -/
def rowS (i s l d : Int) : Nat → Int := fun j => if j = 0 then i else if j = 1 then s else if j = 2 then l else d
def rowA (d l : Int) : Nat → Int := fun j => if j = 0 then d else l
theorem nums_sale {w : World} {B : Nat} {i s l d : Int} (h : w.heap[B]? = some (saleB i s l d)) : NumsAt w (some ⟨B, 0, none⟩) (1 * 4) (rowS i s l d) := fun j hj => by
  refine ⟨B, 0, rfl, ?_⟩
  have hj3 : j = 0 ∨ j = 1 ∨ j = 2 ∨ j = 3 := by omega
  rcases hj3 with rfl | rfl | rfl | rfl
  · exact heap_cell h rfl
  · exact heap_cell h rfl
  · exact heap_cell h rfl
  · exact heap_cell h rfl
theorem nums_arr {w : World} {B : Nat} {d l : Int} (h : w.heap[B]? = some (arrB d l)) : NumsAt w (some ⟨B, 0, none⟩) (1 * 2) (rowA d l) := fun j hj => by
  refine ⟨B, 0, rfl, ?_⟩
  have hj3 : j = 0 ∨ j = 1 := by omega
  rcases hj3 with rfl | rfl
  · exact heap_cell h rfl
  · exact heap_cell h rfl
namespace Pure
def insA (F : Nat → Int) (k : Nat) (X : Nat → Int) : Nat → Int := fun q => if q < k * 2 then F q else if q < k * 2 + 2 then X (q - k * 2) else F (q - 2)
theorem sale_sort {p : PlanX} {T A S : Nat → Int} (hw : plan p T A S = true) : ∀ (y x : Nat), x < y → y < p.sn → S (x * 4) < S (y * 4)
  | 0, x, hx, _ => absurd hx (Nat.not_lt_zero _)
  | y + 1, x, hx, hy => by
    have h4 := (plan_iff.1 hw).so y (by omega)
    by_cases e : x = y
    · subst e; exact h4
    · have := sale_sort hw y x (by omega) (by omega)
      omega
theorem arr_sort {p : PlanX} {T A S : Nat → Int} (hw : plan p T A S = true) : ∀ (y x : Nat), x < y → y < p.an → A (x * 2) ≤ A (y * 2)
  | 0, x, hx, _ => absurd hx (Nat.not_lt_zero _)
  | y + 1, x, hx, hy => by
    have h4 := (plan_iff.1 hw).ao y (by omega)
    by_cases e : x = y
    · subst e; exact h4
    · have := arr_sort hw y x (by omega) (by omega)
      omega
end Pure
theorem valid_no (p : PlanX) (en : Int) (T A S : Nat → Int) (hn : p.tn ≤ 40) (ha : p.an ≤ 40) (hs : p.sn ≤ 40) (hv : Pure.plan p T A S = false) (w : World) (h : PlanAt w p T A S) :
    Calls Try.prog 22 #[planV p, .int .i64 en] w fun e w' => e = .returned (.tuple #[planV noPlan, .int .i64 en]) ∧ Below w.heap.size w w' :=
  (valid_any p en T A S hn ha hs w h).mono fun e w' g => ⟨by rw [g.1, hv]; rfl, g.2⟩
theorem valid_yes (p : PlanX) (en : Int) (T A S : Nat → Int) (hn : p.tn ≤ 40) (ha : p.an ≤ 40) (hs : p.sn ≤ 40) (hv : Pure.plan p T A S = true) (w : World) (h : PlanAt w p T A S) :
    Calls Try.prog 22 #[planV p, .int .i64 en] w fun e w' => e = .returned (.tuple #[planV p, .int .i64 0]) ∧ Below w.heap.size w w' :=
  (valid_any p en T A S hn ha hs w h).mono fun e w' g => ⟨by rw [g.1, hv]; rfl, g.2⟩
/-- What selling gives. -/
def SellOut (p : PlanX) (T A S : Nat → Int) (i s l d : Int) (w : World) (e : Ending) (w' : World) : Prop :=
  ∃ q c, e = .returned (.tuple #[planV q, .int .i64 c]) ∧ Below w.heap.size w w' ∧
    ((Pure.plan p T A S = false ∧ q = noPlan ∧ c = 40) ∨ (Pure.plan p T A S = true ∧ ¬ p.sn < 8 ∧ q = noPlan ∧ c = 9) ∨
     (Pure.plan p T A S = true ∧ p.sn < 8 ∧ ∃ k, IsPlace S i p.sn k ∧
       ((Pure.plan { p with sn := p.sn + 1 } T A (Pure.insF S k (rowS i s l d)) = false ∧ q = noPlan ∧ c = 43) ∨
        (Pure.plan { p with sn := p.sn + 1 } T A (Pure.insF S k (rowS i s l d)) = true ∧ c = 0 ∧ ∃ a1 c1 a2 c2 a3 c3, q = ⟨p.fr, a1, p.tn, c1, p.sd, p.ck, a2, p.an, c2, a3, p.sn + 1, c3, p.bu⟩ ∧ OwnPlan w' w.heap.size q T A (Pure.insF S k (rowS i s l d))))))
/-- What landing gives. -/
def LandOut (p : PlanX) (T A S : Nat → Int) (d l : Int) (w : World) (e : Ending) (w' : World) : Prop :=
  ∃ q c, e = .returned (.tuple #[planV q, .int .i64 c]) ∧ Below w.heap.size w w' ∧
    ((Pure.plan p T A S = false ∧ q = noPlan ∧ c = 40) ∨ (Pure.plan p T A S = true ∧ ¬ p.an < 6 ∧ q = noPlan ∧ c = 9) ∨
     (Pure.plan p T A S = true ∧ p.an < 6 ∧ ∃ k, IsPlaceA A d p.an k ∧
       ((Pure.plan { p with an := p.an + 1 } T (Pure.insA A k (rowA d l)) S = false ∧ q = noPlan ∧ c = 44) ∨
        (Pure.plan { p with an := p.an + 1 } T (Pure.insA A k (rowA d l)) S = true ∧ c = 0 ∧ ∃ a1 c1 a2 c2 a3 c3, q = ⟨p.fr, a1, p.tn, c1, p.sd, p.ck, a2, p.an + 1, c2, a3, p.sn, c3, p.bu⟩ ∧ OwnPlan w' w.heap.size q T (Pure.insA A k (rowA d l)) S))))

set_option maxHeartbeats 8000000 in
set_option maxRecDepth 100000 in
theorem sell_any (p : PlanX) (T A S : Nat → Int) (i s l d : Int) (hn : p.tn ≤ 40) (ha : p.an ≤ 38) (hs : p.sn ≤ 38) (hz : NilPlan p) (w : World) (h : PlanAt w p T A S) :
    Calls Try.prog 6 #[planV p, saleV i s l d] w (SellOut p T A S i s l d w) := by
  have HZ := Lib.hid hz
  clear hz
  obtain ⟨W, hW⟩ : ∃ W, ((w.alloc (planB p)).alloc (saleB i s l d)).alloc (planB noPlan) = W := ⟨_, rfl⟩
  have HB : Hid (Below w.heap.size w W) := Lib.hid (by rw [← hW]; exact ((below_new _ _).alloc (by simp) _).alloc (by simp; omega) _)
  have HX : Hid (W.heap[w.heap.size]? = some (planB p)) := Lib.hid (by rw [← hW]; exact heap_up (heap_up (heap_top _ _ rfl) _) _)
  have HI : Hid (W.heap[w.heap.size + 1]? = some (saleB i s l d)) := Lib.hid (by rw [← hW]; exact heap_up (heap_top _ _ (by simp)) _)
  have HY : Hid (W.heap[w.heap.size + 1 + 1]? = some (planB noPlan)) := Lib.hid (by rw [← hW]; exact heap_top _ _ (by simp))
  have HSZ : Hid (W.heap.size = w.heap.size + 3) := Lib.hid (by rw [← hW]; simp)
  have HP : Hid (PlanAt W p T A S) := Lib.hid (h.below HB.out)
  clear h
  obtain ⟨q, hq⟩ : ∃ q, (if (Pure.err (Pure.plan p T A S) 40) = 0 then (Pure.err (decide ((p.sn : Int) < 8)) 9) else (Pure.err (Pure.plan p T A S) 40)) = q := ⟨_, rfl⟩
  have HQ := Lib.hid hq
  clear hq
  go_enter Try.func6, Try.ntmps6
  go_upto_region 1 with fail
  try rw [hW]
  clear hW
  go_cut [6] from 10 to 18 (fun s wx => s = .int .i64 q ∧ Below W.heap.size W wx)
  case first =>
    rename_i J K' hJ hK'
    generalize hA : (Act.mk _ _ : Act) = a0
    have m2 : At a0 2 (.pointer (some ⟨w.heap.size, 0, none⟩)) := by rw [← hA]; rfl
    have hsz : 18 < a0.tmps.size := by rw [← hA]; exact of_decide_eq_true (by kernel_rfl)
    have hfin : ∀ a' w', Kept (6 :: List.range' 10 9) a0 a' → At a' 6 (.int .i64 q) → (Below W.heap.size W w') → K' a' w' := by
      intro a' w' hI hv6 hL
      refine hK' _ _ (Met.intro (hJ _ _ ⟨a'.tmps.getD 6 undef, a'.tmps.getD 10 undef, a'.tmps.getD 11 undef, a'.tmps.getD 12 undef, a'.tmps.getD 13 undef, a'.tmps.getD 14 undef, a'.tmps.getD 15 undef, a'.tmps.getD 16 undef, a'.tmps.getD 17 undef, a'.tmps.getD 18 undef, ⟨by have g := hv6; unfold At at g; rw [Array.getD_eq_getD_getElem?, g]; rfl, hL⟩, hI.eq.trans ?_⟩))
      rw [← hA]
      kernel_rfl
    have hI : Kept (6 :: List.range' 10 9) a0 a0 := Kept.refl _ _
    clear hA hJ hK' J
    refine with_pan (fun d _ _ _ _ h => by cases d <;> exact h) ?_
    intro hpan
    refine wp_region_rest (fun z => z.heap[w.heap.size]? = some (planB p)) (by kernel_rfl) ?_
    obtain ⟨wz, hwz⟩ : ∃ x, W.drew = x := ⟨_, rfl⟩
    change Rest _ _ _ _ _ _ _ (W.drew)
    rw [hwz]
    have hq : Below W.heap.size W wz := by rw [← hwz]; exact (Below.refl _ _).drew
    clear hwz
    have hS := heap_lft HX.out hq
    refine rest_take (k := 0) (d := 10) (v := planV p) hI rfl rfl (by kernel_rfl) (Nat.lt_of_le_of_lt (by decide) hsz) (by kernel_rfl) hpan (by kernel_rfl) hS (wanted_free rfl) (fun z hz => by have n2 := hI.at m2 (by kernel_rfl); have e2 := n2; have f2 := n2.eval; unfold At at e2; have k0 := heap_cell hz (j := 0) rfl; have k1 := heap_cell hz (j := 1) rfl; have k2 := heap_cell hz (j := 2) rfl; have k3 := heap_cell hz (j := 3) rfl; have k4 := heap_cell hz (j := 4) rfl; have k5 := heap_cell hz (j := 5) rfl; have k6 := heap_cell hz (j := 6) rfl; simp [go_sem, e2, k0, k1, k2, k3, k4, k5, k6]) (fun a' hI' n10' hk => ?_)
    have n10 := n10'
    replace hI := hI'
    clear hk hI' n10'
    obtain ⟨act9, rfl⟩ : ∃ x, x = a' := ⟨_, rfl⟩
    refine rest_take (k := 2) (d := 12) (v := .pointer (some ⟨w.heap.size, 5, none⟩)) hI rfl rfl (by kernel_rfl) (Nat.lt_of_le_of_lt (by decide) hsz) (by kernel_rfl) hpan (by kernel_rfl) hS (wanted_free rfl) (fun z hz => by have n2 := hI.at m2 (by kernel_rfl); have e2 := n2; have f2 := n2.eval; unfold At at e2; simp [go_sem, e2]) (fun a' hI' n12' hk => ?_)
    replace n10 := hk _ _ n10 rfl
    have n12 := n12'
    replace hI := hI'
    clear hk hI' n12'
    obtain ⟨act9, rfl⟩ : ∃ x, x = a' := ⟨_, rfl⟩
    refine rest_take (k := 3) (d := 13) (v := .slice p.sa p.sn p.sc) hI rfl rfl (by kernel_rfl) (Nat.lt_of_le_of_lt (by decide) hsz) (by kernel_rfl) hpan (by kernel_rfl) hS (wanted_free rfl) (fun z hz => by have e12 := n12; have f12 := n12.eval; unfold At at e12; have k5 := heap_cell hz (j := 5) rfl; simp [go_sem, e12, k5]) (fun a' hI' n13' hk => ?_)
    replace n10 := hk _ _ n10 rfl
    replace n12 := hk _ _ n12 rfl
    have n13 := n13'
    replace hI := hI'
    clear hk hI' n13'
    obtain ⟨act9, rfl⟩ : ∃ x, x = a' := ⟨_, rfl⟩
    clear n12
    refine rest_take (k := 4) (d := 14) (v := .int .i64 p.sn) hI rfl rfl (by kernel_rfl) (Nat.lt_of_le_of_lt (by decide) hsz) (by kernel_rfl) hpan (by kernel_rfl) hS (wanted_free rfl) (fun z hz => by have e13 := n13; have f13 := n13.eval; unfold At at e13; simp [go_sem, e13]) (fun a' hI' n14' hk => ?_)
    replace n10 := hk _ _ n10 rfl
    replace n13 := hk _ _ n13 rfl
    have n14 := n14'
    replace hI := hI'
    clear hk hI' n14'
    obtain ⟨act9, rfl⟩ : ∃ x, x = a' := ⟨_, rfl⟩
    clear n13
    refine rest_take (k := 5) (d := 15) (v := .bool (decide ((p.sn : Int) < 8))) hI rfl rfl (by kernel_rfl) (Nat.lt_of_le_of_lt (by decide) hsz) (by kernel_rfl) hpan (by kernel_rfl) hS (wanted_free rfl) (fun z hz => by have e14 := n14; have f14 := n14.eval; unfold At at e14; simp [go_sem, e14]) (fun a' hI' n15' hk => ?_)
    replace n10 := hk _ _ n10 rfl
    replace n14 := hk _ _ n14 rfl
    have n15 := n15'
    replace hI := hI'
    clear hk hI' n15'
    obtain ⟨act9, rfl⟩ : ∃ x, x = a' := ⟨_, rfl⟩
    clear n14
    refine rest_only (k := 1) (by kernel_rfl) (op_call (k := 1) (d := 11) (R := fun v w' => v = .int .i64 (Pure.err (Pure.plan p T A S) 40) ∧ Below wz.heap.size wz w') hI rfl rfl (by kernel_rfl) (Nat.lt_of_le_of_lt (by decide) hsz) (wanted_free rfl) ((check_any p T A S hn (by omega) (by omega) _ (HP.out.below hq)).mono fun e w' g => ⟨_, g.1, rfl, g.2⟩) (by have e10 := n10; have f10 := n10.eval; unfold At at e10; simp [go_sem, e10]) ?_)
    intro v w' a' hR hI' n11' hk
    obtain ⟨rfl, hb⟩ := hR
    refine ⟨heap_lft hS hb, ?_⟩
    replace n10 := hk _ _ n10 rfl
    replace n15 := hk _ _ n15 rfl
    have n11 := n11'
    replace hI := hI'
    clear hk hI' n11'
    obtain ⟨act9, rfl⟩ : ∃ x, x = a' := ⟨_, rfl⟩
    replace hS := heap_lft hS hb
    replace hq := below_thn hq hb
    clear hb
    obtain ⟨u1, rfl⟩ : ∃ x, x = w' := ⟨_, rfl⟩
    clear n10
    refine rest_only (k := 6) (by kernel_rfl) (op_call (k := 6) (d := 16) (R := fun v w' => v = .int .i64 (Pure.err (decide ((p.sn : Int) < 8)) 9) ∧ u1 = w') hI rfl rfl (by kernel_rfl) (Nat.lt_of_le_of_lt (by decide) hsz) (wanted_free rfl) ((unless_any _ _ _).mono fun e w' g => ⟨_, g.1, rfl, g.2⟩) (by have e15 := n15; have f15 := n15.eval; unfold At at e15; simp [go_sem, e15]) ?_)
    intro v w' a' hR hI' n16' hk
    obtain ⟨rfl, rfl⟩ := hR
    refine ⟨hS, ?_⟩
    replace n15 := hk _ _ n15 rfl
    replace n11 := hk _ _ n11 rfl
    have n16 := n16'
    replace hI := hI'
    clear hk hI' n16'
    obtain ⟨act9, rfl⟩ : ∃ x, x = a' := ⟨_, rfl⟩
    clear n15
    have hn1 := below_new u1 (.cells #[.int .i64 (Pure.err (Pure.plan p T A S) 40), .int .i64 (Pure.err (decide ((p.sn : Int) < 8)) 9)] 33)
    have hq1 := below_thn hq hn1
    have hs1 := heap_lft hS hn1
    have hc0 := cells_top u1 #[.int .i64 (Pure.err (Pure.plan p T A S) 40), .int .i64 (Pure.err (decide ((p.sn : Int) < 8)) 9)] 33 rfl 0
    have hc1 := cells_top u1 #[.int .i64 (Pure.err (Pure.plan p T A S) 40), .int .i64 (Pure.err (decide ((p.sn : Int) < 8)) 9)] 33 rfl 1
    obtain ⟨u2, hu2⟩ : ∃ x, u1.alloc (.cells #[.int .i64 (Pure.err (Pure.plan p T A S) 40), .int .i64 (Pure.err (decide ((p.sn : Int) < 8)) 9)] 33) = x := ⟨_, rfl⟩
    rw [hu2] at hn1 hq1 hs1 hc0 hc1
    refine rest_only (k := 7) (by kernel_rfl) (op_value (k := 7) (d := 17) (v := .slice (some ⟨u1.heap.size, 0, none⟩) 2 2) hI rfl rfl (by kernel_rfl) (Nat.lt_of_le_of_lt (by decide) hsz) (wanted_free rfl) (by have e11 := n11; have f11 := n11.eval; unfold At at e11; have e16 := n16; have f16 := n16.eval; unfold At at e16; simp [go_sem, e11, e16]; try rfl) (fun a' hI' n17' hk => ⟨by rw [hu2]; exact hs1, ?_⟩))
    replace n11 := hk _ _ n11 rfl
    replace n16 := hk _ _ n16 rfl
    have n17 := n17'
    replace hI := hI'
    clear hk hI' n17'
    obtain ⟨act9, rfl⟩ : ∃ x, x = a' := ⟨_, rfl⟩
    rw [hu2]
    clear hu2 hS hq hn1
    replace hS := hs1
    replace hq := hq1
    clear hs1 hq1
    clear n11
    clear n16
    refine rest_only (k := 8) (by kernel_rfl) (op_call (k := 8) (d := 18) (R := fun v w' => v = .int .i64 q ∧ u2 = w') hI rfl rfl (by kernel_rfl) (Nat.lt_of_le_of_lt (by decide) hsz) (wanted_free rfl) ((firstError2 _ _ _ 2 _ hc0 hc1).mono fun e w' g => ⟨_, g.1, congrArg (Value.int .i64) HQ.out, g.2⟩) (by have e17 := n17; have f17 := n17.eval; unfold At at e17; simp [go_sem, e17]) ?_)
    intro v w' a' hR hI' n18' hk
    obtain ⟨rfl, rfl⟩ := hR
    refine ⟨hS, ?_⟩
    replace n17 := hk _ _ n17 rfl
    have n18 := n18'
    replace hI := hI'
    clear hk hI' n18'
    obtain ⟨act9, rfl⟩ : ∃ x, x = a' := ⟨_, rfl⟩
    refine rest_take (k := 9) (d := 6) (v := .int .i64 q) hI rfl rfl (by kernel_rfl) (Nat.lt_of_le_of_lt (by decide) hsz) (by kernel_rfl) hpan (by kernel_rfl) hS (wanted_free rfl) (fun z hz => by have e18 := n18; have f18 := n18.eval; unfold At at e18; simp [go_sem, e18]) (fun a' hI' n6' hk => ?_)
    replace n17 := hk _ _ n17 rfl
    replace n18 := hk _ _ n18 rfl
    have n6 := n6'
    replace hI := hI'
    clear hk hI' n6'
    obtain ⟨act9, rfl⟩ : ∃ x, x = a' := ⟨_, rfl⟩
    refine rest_done (by kernel_rfl) ?_
    exact hfin _ _ hI n6 hq
  case rest =>
    obtain ⟨W1, rfl⟩ : ∃ x, x = wc := ⟨_, rfl⟩
    obtain ⟨rfl, hb⟩ := hcut
    have HX1 := Lib.hid (heap_lft HX.out hb)
    have HI1 := Lib.hid (heap_lft HI.out hb)
    have HY1 := Lib.hid (heap_lft HY.out hb)
    have HB1 := Lib.hid (below_thn HB.out hb)
    have HP1 := Lib.hid (HP.out.below hb)
    have HS1 : Hid (w.heap.size + 3 ≤ W1.heap.size) := Lib.hid (by have := hb.size; have := HSZ.out; omega)
    clear hb
    by_cases hw : Pure.plan p T A S = true
    · by_cases h4 : p.sn < 8
      · have hq0 : q = 0 := by rw [← HQ.out, hw]; simp [Pure.err, show (p.sn : Int) < 8 by omega]
        subst hq0
        have HWT := Lib.hid hw
        have H4 := Lib.hid h4
        clear hw
        have x0 := heap_cell HX1.out (j := 0) rfl
        have x1 := heap_cell HX1.out (j := 1) rfl
        have x2 := heap_cell HX1.out (j := 2) rfl
        have x3 := heap_cell HX1.out (j := 3) rfl
        have x4 := heap_cell HX1.out (j := 4) rfl
        have x5 := heap_cell HX1.out (j := 5) rfl
        have x6 := heap_cell HX1.out (j := 6) rfl
        go_upto_region 4 with fail
        go_wp2_with fail
        refine (copied_any p T A S hn (by omega) (by omega) HZ.out _ HP1.out).mono ?_
        rintro e2 W2 ⟨a1, c1, a2, c2, a3, c3, rfl, ho, hb, hap⟩
        have HAP := Lib.hid hap
        have HI2 := Lib.hid (heap_lft HI1.out hb)
        have HY2 := Lib.hid (heap_lft HY1.out hb)
        have HB2 := Lib.hid (below_thn HB1.out hb)
        have HO2 := Lib.hid ho
        have HS2 : Hid (W1.heap.size ≤ W2.heap.size) := Lib.hid hb.size
        clear ho hb hap x0 x1 x2 x3 x4 x5 x6
        go_upto_region 5 with fail
        obtain ⟨V, hV⟩ : ∃ V, W2.alloc (planB (p.moved a1 c1 a2 c2 a3 c3)) = V := ⟨_, rfl⟩
        have hbv : Below W2.heap.size W2 V := by rw [← hV]; exact below_new _ _
        have HQV : Hid (V.heap[W2.heap.size]? = some (planB (p.moved a1 c1 a2 c2 a3 c3))) := Lib.hid (by rw [← hV]; exact heap_top _ _ rfl)
        have HSV : Hid (V.heap.size = W2.heap.size + 1) := Lib.hid (by rw [← hV]; simp)
        have HIV := Lib.hid (heap_lft HI2.out hbv)
        have HYV := Lib.hid (heap_lft HY2.out hbv)
        have HBV := Lib.hid (below_thn HB2.out hbv)
        have HOV := Lib.hid (HO2.out.below hbv)
        try rw [hV]
        clear hV hbv
        have v5 := heap_cell HQV.out (j := 5) rfl
        have i0 := heap_cell HIV.out (j := 0) rfl
        go_wp2_with fail
        refine (search_any a3 p.sn c3 S i (by omega) (fun m q hm hq => Pure.sale_sort HWT.out q m hm hq) _ HOV.out.s.nums).mono ?_
        rintro e2 U ⟨k, bk, rfl, hkn, hlo, hhi, hb⟩
        have HK : Hid (IsPlace S i p.sn k) := Lib.hid ⟨hkn, hlo, hhi⟩
        have HQU := Lib.hid (heap_lft HQV.out hb)
        have HIU := Lib.hid (heap_lft HIV.out hb)
        have HYU := Lib.hid (heap_lft HYV.out hb)
        have HBU := Lib.hid (below_thn HBV.out hb)
        have HOU := Lib.hid (HOV.out.below hb)
        have HSU : Hid (V.heap.size ≤ U.heap.size) := Lib.hid hb.size
        clear hlo hhi hb v5 i0
        obtain ⟨Y, hY⟩ : ∃ Y, U.alloc (saleB i s l d) = Y := ⟨_, rfl⟩
        have hby : Below U.heap.size U Y := by rw [← hY]; exact below_new _ _
        have HV : Hid (Y.heap[U.heap.size]? = some (saleB i s l d)) := Lib.hid (by rw [← hY]; exact heap_top _ _ rfl)
        have HQY := Lib.hid (heap_lft HQU.out hby)
        have HYY := Lib.hid (heap_lft HYU.out hby)
        have HBY := Lib.hid (below_thn HBU.out hby)
        have HOY := Lib.hid (HOU.out.below hby)
        have HSY : Hid (U.heap.size ≤ Y.heap.size) := Lib.hid hby.size
        clear hby
        have v5 := heap_cell HQU.out (j := 5) rfl
        have i0 := heap_cell HIU.out (j := 0) rfl
        have i1 := heap_cell HIU.out (j := 1) rfl
        have i2 := heap_cell HIU.out (j := 2) rfl
        have i3 := heap_cell HIU.out (j := 3) rfl
        go_wp2_with fail
        try rw [hY]
        clear hY
        refine (insert_any a3 p.sn c3 S (rowS i s l d) W1.heap.size k U.heap.size 1 (by omega) hkn _ i s l d HV.out (nums_sale HV.out) (fun x hx => by have := (HOU.out.s.lt x hx).2; omega) (by have := HSY.out; have := HSU.out; have := HSV.out; have := HS2.out; omega) HOY.out.s).mono ?_
        rintro e2 X ⟨a4, c4, rfl, ho4, hb, hal⟩
        have hs1 := HS1.out
        have hs2 := HS2.out
        have hsv := HSV.out
        have hsu := HSU.out
        have hsy := HSY.out
        have HQX : Hid (X.heap[W2.heap.size]? = some (planB (p.moved a1 c1 a2 c2 a3 c3))) := Lib.hid ((hal W2.heap.size (by omega) (fun b hb e => by have := (HO2.out.s.lt b hb).2; omega)).trans HQY.out)
        have HYX : Hid (X.heap[w.heap.size + 1 + 1]? = some (planB noPlan)) := Lib.hid ((hb.block _ (by omega)).trans HYY.out)
        have HBX : Hid (Below w.heap.size w X) := Lib.hid (HBY.out.trans (hb.mono (by omega)))
        have HTX := Lib.hid (HOY.out.t.kept (fun x hx => hal _ (HOY.out.t.lt x hx).2 (fun b hb => HAP.out.1 x b hx hb)))
        have HAX := Lib.hid (HOY.out.a.kept (fun x hx => hal _ (HOY.out.a.lt x hx).2 (fun b hb => HAP.out.2.1 x b hx hb)))
        have HOX := Lib.hid ho4
        clear ho4 hb hal v5 i0 i1 i2 i3 hs1 hs2 hsv hsu hsy
        have q5 := heap_cell HQX.out (j := 5) rfl
        have g5 := heap_frozen HQX.out 5
        go_upto_region 7 with fail
        obtain ⟨M, hM⟩ : ∃ M, X.setCell ⟨W2.heap.size, 5, none⟩ (.slice a4 (p.sn + 1) c4) = M := ⟨_, rfl⟩
        have hs1 := HS1.out
        have hs2 := HS2.out
        have HQM : Hid (M.heap[W2.heap.size]? = some (planB ⟨p.fr, a1, p.tn, c1, p.sd, p.ck, a2, p.an, c2, a4, p.sn + 1, c4, p.bu⟩)) := Lib.hid (by rw [← hM]; exact heap_set HQX.out 5 _)
        have HYM : Hid (M.heap[w.heap.size + 1 + 1]? = some (planB noPlan)) := Lib.hid (by rw [← hM]; exact (Below.heap_setCell _ _ _ _ (by dsimp only; omega)).trans HYX.out)
        have HBM : Hid (Below w.heap.size w M) := Lib.hid (by rw [← hM]; exact HBX.out.setCell (by dsimp only; omega) _)
        have HOM : Hid (OwnPlan M W1.heap.size ⟨p.fr, a1, p.tn, c1, p.sd, p.ck, a2, p.an, c2, a4, p.sn + 1, c4, p.bu⟩ T A (Pure.insF S k (rowS i s l d))) := Lib.hid ⟨HTX.out.kept (w' := M) (fun x hx => by rw [← hM]; exact Below.heap_setCell _ _ _ _ (HTX.out.ne HQX.out (by decide) x hx)), HAX.out.kept (w' := M) (fun x hx => by rw [← hM]; exact Below.heap_setCell _ _ _ _ (HAX.out.ne HQX.out (by decide) x hx)), HOX.out.kept (w' := M) (fun x hx => by rw [← hM]; exact Below.heap_setCell _ _ _ _ (HOX.out.ne HQX.out (by decide) x hx))⟩
        have HPM := Lib.hid HOM.out.at
        try rw [hM]
        clear hM q5 g5 hs1 hs2
        obtain ⟨r, hr⟩ : ∃ r, Pure.plan { p with sn := p.sn + 1 } T (A) (Pure.insF S k (rowS i s l d)) = r := ⟨_, rfl⟩
        have HR := Lib.hid hr
        clear hr
        have q0 := heap_cell HQM.out (j := 0) rfl
        have q1 := heap_cell HQM.out (j := 1) rfl
        have q2 := heap_cell HQM.out (j := 2) rfl
        have q3 := heap_cell HQM.out (j := 3) rfl
        have q4 := heap_cell HQM.out (j := 4) rfl
        have q5 := heap_cell HQM.out (j := 5) rfl
        have q6 := heap_cell HQM.out (j := 6) rfl
        cases r
        · go_wp2_with fail
          refine (valid_no ⟨p.fr, a1, p.tn, c1, p.sd, p.ck, a2, p.an, c2, a4, p.sn + 1, c4, p.bu⟩ 43 T (A) (Pure.insF S k (rowS i s l d)) hn (by dsimp only; omega) (by dsimp only; omega) HR.out _ HPM.out).mono ?_
          rintro e2 N ⟨rfl, hb⟩
          have HYN := Lib.hid (heap_lft HYM.out hb)
          have HBN := Lib.hid (below_thn HBM.out hb)
          have HON : Hid (OwnPlan N W1.heap.size ⟨p.fr, a1, p.tn, c1, p.sd, p.ck, a2, p.an, c2, a4, p.sn + 1, c4, p.bu⟩ T (A) (Pure.insF S k (rowS i s l d))) := Lib.hid (HOM.out.below hb)
          clear hb q0 q1 q2 q3 q4 q5 q6
          have y0 := heap_cell HYN.out (j := 0) rfl
          have y1 := heap_cell HYN.out (j := 1) rfl
          have y2 := heap_cell HYN.out (j := 2) rfl
          have y3 := heap_cell HYN.out (j := 3) rfl
          have y4 := heap_cell HYN.out (j := 4) rfl
          have y5 := heap_cell HYN.out (j := 5) rfl
          have y6 := heap_cell HYN.out (j := 6) rfl
          have f0 := heap_frozen HYN.out 0
          have f1 := heap_frozen HYN.out 1
          have f2 := heap_frozen HYN.out 2
          have f3 := heap_frozen HYN.out 3
          have f4 := heap_frozen HYN.out 4
          have f5 := heap_frozen HYN.out 5
          have f6 := heap_frozen HYN.out 6
          go_wp2_with fail
          refine bodyPost_ret (v := .tuple #[planV noPlan, .int .i64 43]) (by simp [results, Try.results6, go_sem, y0, y1, y2, y3, y4, y5, y6]; try rfl) rfl ⟨noPlan, 43, rfl, ?_, .inr (.inr ⟨HWT.out, H4.out, k, HK.out, .inl ⟨HR.out, rfl, rfl⟩⟩)⟩
          repeat (first | with_reducible exact HBN.out | with_reducible refine Below.setCell ?_ (by first | (simp; done) | (dsimp only; omega)) _)
        · go_wp2_with fail
          refine (valid_yes ⟨p.fr, a1, p.tn, c1, p.sd, p.ck, a2, p.an, c2, a4, p.sn + 1, c4, p.bu⟩ 43 T (A) (Pure.insF S k (rowS i s l d)) hn (by dsimp only; omega) (by dsimp only; omega) HR.out _ HPM.out).mono ?_
          rintro e2 N ⟨rfl, hb⟩
          have HYN := Lib.hid (heap_lft HYM.out hb)
          have HBN := Lib.hid (below_thn HBM.out hb)
          have HON : Hid (OwnPlan N W1.heap.size ⟨p.fr, a1, p.tn, c1, p.sd, p.ck, a2, p.an, c2, a4, p.sn + 1, c4, p.bu⟩ T (A) (Pure.insF S k (rowS i s l d))) := Lib.hid (HOM.out.below hb)
          clear hb q0 q1 q2 q3 q4 q5 q6
          have y0 := heap_cell HYN.out (j := 0) rfl
          have y1 := heap_cell HYN.out (j := 1) rfl
          have y2 := heap_cell HYN.out (j := 2) rfl
          have y3 := heap_cell HYN.out (j := 3) rfl
          have y4 := heap_cell HYN.out (j := 4) rfl
          have y5 := heap_cell HYN.out (j := 5) rfl
          have y6 := heap_cell HYN.out (j := 6) rfl
          have f0 := heap_frozen HYN.out 0
          have f1 := heap_frozen HYN.out 1
          have f2 := heap_frozen HYN.out 2
          have f3 := heap_frozen HYN.out 3
          have f4 := heap_frozen HYN.out 4
          have f5 := heap_frozen HYN.out 5
          have f6 := heap_frozen HYN.out 6
          go_wp2_with fail
          refine bodyPost_ret (v := .tuple #[planV (⟨p.fr, a1, p.tn, c1, p.sd, p.ck, a2, p.an, c2, a4, p.sn + 1, c4, p.bu⟩ : PlanX), .int .i64 0]) (by simp [results, Try.results6, go_sem, y0, y1, y2, y3, y4, y5, y6]; try rfl) rfl ⟨(⟨p.fr, a1, p.tn, c1, p.sd, p.ck, a2, p.an, c2, a4, p.sn + 1, c4, p.bu⟩ : PlanX), 0, rfl, ?_, .inr (.inr ⟨HWT.out, H4.out, k, HK.out, .inr ⟨HR.out, rfl, a1, c1, a2, c2, a4, c4, rfl, ?_⟩⟩)⟩
          repeat (first | with_reducible exact HBN.out | with_reducible refine Below.setCell ?_ (by first | (simp; done) | (dsimp only; omega)) _)
          have hs1 := HS1.out
          refine ⟨OwnNums.base (base := W1.heap.size) ?_ (by omega), OwnNums.base (base := W1.heap.size) ?_ (by omega), OwnNums.base (base := W1.heap.size) ?_ (by omega)⟩
          · repeat (first | with_reducible exact HON.out.t | with_reducible refine OwnNums.set ?_ (by dsimp only; omega) _)
          · repeat (first | with_reducible exact HON.out.a | with_reducible refine OwnNums.set ?_ (by dsimp only; omega) _)
          · repeat (first | with_reducible exact HON.out.s | with_reducible refine OwnNums.set ?_ (by dsimp only; omega) _)
      · have hq0 : q = 9 := by rw [← HQ.out, hw]; simp [Pure.err, show ¬ (p.sn : Int) < 8 by omega]
        subst hq0
        have HWT := Lib.hid hw
        have H4 := Lib.hid (show ¬ p.sn < 8 by omega)
        clear hw h4
        have y0 := heap_cell HY1.out (j := 0) rfl
        have y1 := heap_cell HY1.out (j := 1) rfl
        have y2 := heap_cell HY1.out (j := 2) rfl
        have y3 := heap_cell HY1.out (j := 3) rfl
        have y4 := heap_cell HY1.out (j := 4) rfl
        have y5 := heap_cell HY1.out (j := 5) rfl
        have y6 := heap_cell HY1.out (j := 6) rfl
        have f0 := heap_frozen HY1.out 0
        have f1 := heap_frozen HY1.out 1
        have f2 := heap_frozen HY1.out 2
        have f3 := heap_frozen HY1.out 3
        have f4 := heap_frozen HY1.out 4
        have f5 := heap_frozen HY1.out 5
        have f6 := heap_frozen HY1.out 6
        go_wp2_with fail
        refine bodyPost_ret (v := .tuple #[planV noPlan, .int .i64 9]) (by simp [results, Try.results6, go_sem, y0, y1, y2, y3, y4, y5, y6]; try rfl) rfl ⟨noPlan, 9, rfl, ?_, .inr (.inl ⟨HWT.out, H4.out, rfl, rfl⟩)⟩
        repeat (first | with_reducible exact HB1.out | with_reducible refine Below.setCell ?_ (by first | (simp; done) | (dsimp only; omega)) _)
    · have hwf : Pure.plan p T A S = false := by simpa using hw
      have hq0 : q = 40 := by rw [← HQ.out, hwf]; simp [Pure.err]
      subst hq0
      have HWT := Lib.hid hwf
      clear hw hwf
      have y0 := heap_cell HY1.out (j := 0) rfl
      have y1 := heap_cell HY1.out (j := 1) rfl
      have y2 := heap_cell HY1.out (j := 2) rfl
      have y3 := heap_cell HY1.out (j := 3) rfl
      have y4 := heap_cell HY1.out (j := 4) rfl
      have y5 := heap_cell HY1.out (j := 5) rfl
      have y6 := heap_cell HY1.out (j := 6) rfl
      have f0 := heap_frozen HY1.out 0
      have f1 := heap_frozen HY1.out 1
      have f2 := heap_frozen HY1.out 2
      have f3 := heap_frozen HY1.out 3
      have f4 := heap_frozen HY1.out 4
      have f5 := heap_frozen HY1.out 5
      have f6 := heap_frozen HY1.out 6
      go_wp2_with fail
      refine bodyPost_ret (v := .tuple #[planV noPlan, .int .i64 40]) (by simp [results, Try.results6, go_sem, y0, y1, y2, y3, y4, y5, y6]; try rfl) rfl ⟨noPlan, 40, rfl, ?_, .inl ⟨HWT.out, rfl, rfl⟩⟩
      repeat (first | with_reducible exact HB1.out | with_reducible refine Below.setCell ?_ (by first | (simp; done) | (dsimp only; omega)) _)

end Go.Proofs.Ytknpdjbokgenpaa
