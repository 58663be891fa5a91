/-
  The contract of Strike.
-/
import Derived.Test.YtmdmfiddabmaeaaQNumbers
import Derived.Test.YtmdmfiddabmaeaaRest
namespace Go.Proofs.Ytmdmfiddabmaeaa
open Go.RowKit

/-- The code that Strike's checks give. -/
def StrikeCode (n : Nat) (F : Nat → Int) (m : Nat) (G : Nat → Int) (len : Nat) (L : Nat → Int) (q : Int) : Prop :=
  (Pure.press n F m G = false ∧ q = 20) ∨ (Pure.press n F m G = true ∧ ¬ struckOk len L m G ∧ q = 21) ∨ (Pure.press n F m G = true ∧ struckOk len L m G ∧ q = 0)
theorem strikeCode_ex (n : Nat) (F : Nat → Int) (m : Nat) (G : Nat → Int) (len : Nat) (L : Nat → Int) : ∃ q, StrikeCode n F m G len L q := by
  cases h : Pure.press n F m G
  · exact ⟨20, .inl ⟨h, rfl⟩⟩
  · by_cases g : struckOk len L m G
    · exact ⟨0, .inr (.inr ⟨h, g, rfl⟩)⟩
    · exact ⟨21, .inr (.inl ⟨h, g, rfl⟩)⟩
theorem StrikeCode.first {n : Nat} {F : Nat → Int} {m : Nat} {G : Nat → Int} {len : Nat} {L : Nat → Int} {q r : Int} (h : StrikeCode n F m G len L q) (hr : struckOk len L m G ∧ r = 0 ∨ ¬ struckOk len L m G ∧ r = 21) : (if Pure.err (Pure.press n F m G) 20 = 0 then r else Pure.err (Pure.press n F m G) 20) = q := by
  rcases h with ⟨h1, rfl⟩ | ⟨h1, h2, rfl⟩ | ⟨h1, h2, rfl⟩ <;> rw [h1] <;> rcases hr with ⟨h3, rfl⟩ | ⟨h3, rfl⟩ <;> first | rfl | contradiction
/-- What Strike gives. -/
def StrikeOut (n : Nat) (F : Nat → Int) (m : Nat) (G : Nat → Int) (len : Nat) (L : Nat → Int) (w : World) (e : Ending) (w' : World) : Prop :=
  ∃ a1 n1 c1 a2 n2 c2 q, e = .returned (.tuple #[pressV a1 n1 c1 a2 n2 c2, .int .i64 q]) ∧ StrikeCode n F m G len L q ∧ Below w.heap.size w w' ∧
    (q ≠ 0 ∧ a1 = none ∧ n1 = 0 ∧ c1 = 0 ∧ a2 = none ∧ n2 = 0 ∧ c2 = 0 ∨
     q = 0 ∧ n1 = n ∧ n2 = Pure.leftN len L G m ∧ OwnNums w' w.heap.size 45 4 a1 n c1 F ∧ OwnNums w' w.heap.size 29 5 a2 n2 c2 (Pure.leftF len L G m))

set_option maxHeartbeats 8000000 in
set_option maxRecDepth 100000 in
theorem strikeTop_any (a : Option Addr) (n c : Nat) (b : Option Addr) (m d : Nat) (la : Option Addr) (len cap : Nat) (F G L : Nat → Int) (hn : n ≤ 60) (hm : m ≤ 60) (hl : len ≤ 1000000) (hnil : a = none → n = 0 ∧ c = 0) (wG : ∀ i, i < m → (Lit.int .i64 (G (i * 5))).wf = true) (wL : ∀ j, j < len → (Lit.int .i64 (L j)).wf = true) (w : World) (hF : NumsAt w a (n * 4) F) (hG : NumsAt w b (m * 5) G) (hL : NumsAt w la len L) :
    Calls Try.prog 8 #[pressV a n c b m d, .slice la len cap] w (StrikeOut n F m G len L w) := by
  obtain ⟨W, hW⟩ : ∃ W, (w.alloc (pressB a n c b m d)).alloc (pressB none 0 0 none 0 0) = W := ⟨_, rfl⟩
  have HB : Hid (Below w.heap.size w W) := Lib.hid (by rw [← hW]; exact (below_new _ _).alloc (by simp) _)
  have HX : Hid (W.heap[w.heap.size]? = some (pressB a n c b m d)) := Lib.hid (by rw [← hW]; exact heap_up (heap_top _ _ rfl) _)
  have HY : Hid (W.heap[w.heap.size + 1]? = some (pressB none 0 0 none 0 0)) := Lib.hid (by rw [← hW]; exact heap_top _ _ (by simp))
  have HSZ : Hid (W.heap.size = w.heap.size + 2) := Lib.hid (by rw [← hW]; simp)
  have HF := Lib.hid (hF.below HB.out)
  have HG := Lib.hid (hG.below HB.out)
  have HL := Lib.hid (hL.below HB.out)
  have HN := Lib.hid hnil
  have HWG := Lib.hid wG
  have HWL := Lib.hid wL
  clear hF hG hL hnil wG wL
  obtain ⟨q, hq⟩ := strikeCode_ex n F m G len L
  have HQ := Lib.hid hq
  clear hq
  go_enter Try.func8, Try.ntmps8
  go_upto_region 1 with fail
  try rw [hW]
  clear hW
  go_cut [6] from 7 to 13 (fun s wx => s = .int .i64 q ∧ Below W.heap.size W wx)
  case first =>
    rename_i J K' hJ hK'
    generalize hA : (Act.mk _ _ : Act) = a0
    have m1 : At a0 1 (.slice la len cap) := by rw [← hA]; rfl
    have m2 : At a0 2 (.pointer (some ⟨w.heap.size, 0, none⟩)) := by rw [← hA]; rfl
    have hsz : 13 < a0.tmps.size := by rw [← hA]; exact of_decide_eq_true (by kernel_rfl)
    have hfin : ∀ a' w', Kept (6 :: List.range' 7 7) a0 a' → At a' 6 (.int .i64 q) → (Below W.heap.size W w') → K' a' w' := by
      intro a' w' hI hv6 hL
      refine hK' _ _ (Met.intro (hJ _ _ ⟨a'.tmps.getD 6 undef, a'.tmps.getD 7 undef, a'.tmps.getD 8 undef, a'.tmps.getD 9 undef, a'.tmps.getD 10 undef, a'.tmps.getD 11 undef, a'.tmps.getD 12 undef, a'.tmps.getD 13 undef, ⟨by have g := hv6; unfold At at g; rw [Array.getD_eq_getD_getElem?, g]; rfl, hL⟩, hI.eq.trans ?_⟩))
      rw [← hA]
      kernel_rfl
    have hI : Kept (6 :: List.range' 7 7) a0 a0 := Kept.refl _ _
    clear hA hJ hK' J
    refine with_pan (fun d _ _ _ _ h => by cases d <;> exact h) ?_
    intro hpan
    refine wp_region_rest (fun z => z.heap[w.heap.size]? = some (pressB a n c b m d)) (by kernel_rfl) ?_
    obtain ⟨wz, hwz⟩ : ∃ x, W.drew = x := ⟨_, rfl⟩
    change Rest _ _ _ _ _ _ _ (W.drew)
    rw [hwz]
    have hq : Below W.heap.size W wz := by rw [← hwz]; exact (Below.refl _ _).drew
    clear hwz
    have hS := heap_lft HX.out hq
    refine rest_take (k := 0) (d := 7) (v := pressV a n c b m d) hI rfl rfl (by kernel_rfl) (Nat.lt_of_le_of_lt (by decide) hsz) (by kernel_rfl) hpan (by kernel_rfl) hS (wanted_free rfl) (fun z hz => by have n2 := hI.at m2 (by kernel_rfl); have e2 := n2; have f2 := n2.eval; unfold At at e2; have k0 := heap_cell hz (j := 0) rfl; have k1 := heap_cell hz (j := 1) rfl; simp [go_sem, BigFrame.eval_const, BigFrame.eval_global, BigFrame.eval_func, e2, f2, k0, k1]) (fun a' hI' n7' hk => ?_)
    have n7 := n7'
    replace hI := hI'
    clear hk hI' n7'
    obtain ⟨act9, rfl⟩ : ∃ x, x = a' := ⟨_, rfl⟩
    refine rest_take (k := 2) (d := 9) (v := pressV a n c b m d) hI rfl rfl (by kernel_rfl) (Nat.lt_of_le_of_lt (by decide) hsz) (by kernel_rfl) hpan (by kernel_rfl) hS (wanted_free rfl) (fun z hz => by have n2 := hI.at m2 (by kernel_rfl); have e2 := n2; have f2 := n2.eval; unfold At at e2; have k0 := heap_cell hz (j := 0) rfl; have k1 := heap_cell hz (j := 1) rfl; simp [go_sem, BigFrame.eval_const, BigFrame.eval_global, BigFrame.eval_func, e2, f2, k0, k1]) (fun a' hI' n9' hk => ?_)
    replace n7 := hk _ _ n7 rfl
    have n9 := n9'
    replace hI := hI'
    clear hk hI' n9'
    obtain ⟨act9, rfl⟩ : ∃ x, x = a' := ⟨_, rfl⟩
    refine rest_take (k := 3) (d := 10) (v := .slice la len cap) hI rfl rfl (by kernel_rfl) (Nat.lt_of_le_of_lt (by decide) hsz) (by kernel_rfl) hpan (by kernel_rfl) hS (wanted_free rfl) (fun z hz => by have n1 := hI.at m1 (by kernel_rfl); have e1 := n1; have f1 := n1.eval; unfold At at e1; simp [go_sem, BigFrame.eval_const, BigFrame.eval_global, BigFrame.eval_func, e1, f1]) (fun a' hI' n10' hk => ?_)
    replace n7 := hk _ _ n7 rfl
    replace n9 := hk _ _ n9 rfl
    have n10 := n10'
    replace hI := hI'
    clear hk hI' n10'
    obtain ⟨act9, rfl⟩ : ∃ x, x = a' := ⟨_, rfl⟩
    refine rest_only (k := 1) (by kernel_rfl) (op_call (k := 1) (d := 8) (R := fun v w' => v = .int .i64 (Pure.err (Pure.press n F m G) 20) ∧ Below wz.heap.size wz w') hI rfl rfl (by kernel_rfl) (Nat.lt_of_le_of_lt (by decide) hsz) (wanted_free rfl) ((check_any a n c b m d F G hn hm _ (HF.out.below hq) (HG.out.below hq)).mono fun e w' g => ⟨_, g.1, rfl, g.2⟩) (by have e7 := n7; have f7 := n7.eval; unfold At at e7; simp [go_sem, BigFrame.eval_const, BigFrame.eval_global, BigFrame.eval_func, e7, f7]) ?_)
    intro v w' a' hR hI' n8' hk
    obtain ⟨rfl, hb⟩ := hR
    refine ⟨heap_lft hS hb, ?_⟩
    replace n7 := hk _ _ n7 rfl
    replace n9 := hk _ _ n9 rfl
    replace n10 := hk _ _ n10 rfl
    have n8 := n8'
    replace hI := hI'
    clear hk hI' n8'
    obtain ⟨act9, rfl⟩ : ∃ x, x = a' := ⟨_, rfl⟩
    replace hS := heap_lft hS hb
    replace hq := below_thn hq hb
    clear hb
    obtain ⟨u1, rfl⟩ : ∃ x, x = w' := ⟨_, rfl⟩
    clear n7
    refine rest_only (k := 4) (by kernel_rfl) (op_call (k := 4) (d := 11) (R := fun v w' => ∃ r : Int, v = .int .i64 r ∧ (struckOk len L m G ∧ r = 0 ∨ ¬ struckOk len L m G ∧ r = 21) ∧ Below u1.heap.size u1 w') hI rfl rfl (by kernel_rfl) (Nat.lt_of_le_of_lt (by decide) hsz) (wanted_free rfl) ((checkNumbers_any a n c b m d la len cap G L hm hl HWG.out HWL.out _ (HG.out.below hq) (HL.out.below hq)).mono fun e w' ⟨r, g1, g2, g3⟩ => ⟨_, g1, r, rfl, g2, g3⟩) (by have e9 := n9; have f9 := n9.eval; unfold At at e9; have e10 := n10; have f10 := n10.eval; unfold At at e10; simp [go_sem, BigFrame.eval_const, BigFrame.eval_global, BigFrame.eval_func, e9, f9, e10, f10]) ?_)
    intro v w' a' hR hI' n11' hk
    obtain ⟨r9, rfl, hr9, hb⟩ := hR
    refine ⟨heap_lft hS hb, ?_⟩
    replace n9 := hk _ _ n9 rfl
    replace n10 := hk _ _ n10 rfl
    replace n8 := hk _ _ n8 rfl
    have n11 := n11'
    replace hI := hI'
    clear hk hI' n11'
    obtain ⟨act9, rfl⟩ : ∃ x, x = a' := ⟨_, rfl⟩
    replace hS := heap_lft hS hb
    replace hq := below_thn hq hb
    clear hb
    obtain ⟨u3, rfl⟩ : ∃ x, x = w' := ⟨_, rfl⟩
    clear n9
    clear n10
    have hn1 := below_new u3 (.cells #[.int .i64 (Pure.err (Pure.press n F m G) 20), .int .i64 r9] 33)
    have hq1 := below_thn hq hn1
    have hs1 := heap_lft hS hn1
    have hc0 := cells_top u3 #[.int .i64 (Pure.err (Pure.press n F m G) 20), .int .i64 r9] 33 rfl 0
    have hc1 := cells_top u3 #[.int .i64 (Pure.err (Pure.press n F m G) 20), .int .i64 r9] 33 rfl 1
    obtain ⟨u2, hu2⟩ : ∃ x, u3.alloc (.cells #[.int .i64 (Pure.err (Pure.press n F m G) 20), .int .i64 r9] 33) = x := ⟨_, rfl⟩
    rw [hu2] at hn1 hq1 hs1 hc0 hc1
    refine rest_only (k := 5) (by kernel_rfl) (op_value (k := 5) (d := 12) (v := .slice (some ⟨u3.heap.size, 0, none⟩) 2 2) hI rfl rfl (by kernel_rfl) (Nat.lt_of_le_of_lt (by decide) hsz) (wanted_free rfl) (by have e8 := n8; have f8 := n8.eval; unfold At at e8; have e11 := n11; have f11 := n11.eval; unfold At at e11; simp [go_sem, BigFrame.eval_const, BigFrame.eval_global, BigFrame.eval_func, e8, f8, e11, f11]; try rfl) (fun a' hI' n12' hk => ⟨by rw [hu2]; exact hs1, ?_⟩))
    replace n8 := hk _ _ n8 rfl
    replace n11 := hk _ _ n11 rfl
    have n12 := n12'
    replace hI := hI'
    clear hk hI' n12'
    obtain ⟨act9, rfl⟩ : ∃ x, x = a' := ⟨_, rfl⟩
    rw [hu2]
    clear hu2 hS hq hn1
    replace hS := hs1
    replace hq := hq1
    clear hs1 hq1
    clear n8
    clear n11
    refine rest_only (k := 6) (by kernel_rfl) (op_call (k := 6) (d := 13) (R := fun v w' => v = .int .i64 q ∧ u2 = w') hI rfl rfl (by kernel_rfl) (Nat.lt_of_le_of_lt (by decide) hsz) (wanted_free rfl) ((firstError2 _ _ _ 2 _ hc0 hc1).mono fun e w' g => ⟨_, g.1, congrArg (Value.int .i64) (HQ.out.first hr9), g.2⟩) (by have e12 := n12; have f12 := n12.eval; unfold At at e12; simp [go_sem, BigFrame.eval_const, BigFrame.eval_global, BigFrame.eval_func, e12, f12]) ?_)
    intro v w' a' hR hI' n13' hk
    obtain ⟨rfl, rfl⟩ := hR
    refine ⟨hS, ?_⟩
    replace n12 := hk _ _ n12 rfl
    have n13 := n13'
    replace hI := hI'
    clear hk hI' n13'
    obtain ⟨act9, rfl⟩ : ∃ x, x = a' := ⟨_, rfl⟩
    refine rest_take (k := 7) (d := 6) (v := .int .i64 q) hI rfl rfl (by kernel_rfl) (Nat.lt_of_le_of_lt (by decide) hsz) (by kernel_rfl) hpan (by kernel_rfl) hS (wanted_free rfl) (fun z hz => by have e13 := n13; have f13 := n13.eval; unfold At at e13; simp [go_sem, BigFrame.eval_const, BigFrame.eval_global, BigFrame.eval_func, e13, f13]) (fun a' hI' n6' hk => ?_)
    replace n12 := hk _ _ n12 rfl
    replace n13 := hk _ _ n13 rfl
    have n6 := n6'
    replace hI := hI'
    clear hk hI' n6'
    obtain ⟨act9, rfl⟩ : ∃ x, x = a' := ⟨_, rfl⟩
    refine rest_done (by kernel_rfl) ?_
    exact hfin _ _ hI n6 hq
  case rest =>
    obtain ⟨W1, rfl⟩ : ∃ x, x = wc := ⟨_, rfl⟩
    obtain ⟨rfl, hb⟩ := hcut
    have HX1 := Lib.hid (heap_lft HX.out hb)
    have HY1 := Lib.hid (heap_lft HY.out hb)
    have HB1 := Lib.hid (below_thn HB.out hb)
    have HF1 := Lib.hid (HF.out.below hb)
    have HG1 := Lib.hid (HG.out.below hb)
    have HL1 := Lib.hid (HL.out.below hb)
    have HS1 : Hid (w.heap.size + 2 ≤ W1.heap.size) := Lib.hid (by have := hb.size; have := HSZ.out; omega)
    clear hb
    by_cases h0 : q = 0
    · subst h0
      have hn10 : n ≤ 10 := by
        rcases HQ.out with ⟨_, h⟩ | ⟨_, _, h⟩ | ⟨h, _⟩
        · cases h
        · cases h
        · unfold Pure.press Pure.fewP at h
          simp only [Bool.and_eq_true, decide_eq_true_eq] at h
          omega
      have x0 := heap_cell HX1.out (j := 0) rfl
      have x1 := heap_cell HX1.out (j := 1) rfl
      go_wp2_with fail
      refine (without_any a n c b m d la len cap F G L (by omega) hm hl HN.out HWG.out HWL.out _ HF1.out HG1.out HL1.out).mono ?_
      rintro e W2 ⟨a1, c1, a2, c2, rfl, ho1, ho2, _, hb⟩
      have HO1 := Lib.hid ho1
      have HO2 := Lib.hid ho2
      have HY2 := Lib.hid (heap_lft HY1.out hb)
      have HB2 := Lib.hid (below_thn HB1.out hb)
      clear ho1 ho2 hb x0 x1
      have y0 := heap_cell HY2.out (j := 0) rfl
      have y1 := heap_cell HY2.out (j := 1) rfl
      have f0 := heap_frozen HY2.out 0
      have f1 := heap_frozen HY2.out 1
      go_wp2_with fail
      refine bodyPost_ret (v := .tuple #[pressV a1 n c1 a2 (Pure.leftN len L G m) c2, .int .i64 0]) (by simp [results, Try.results8, go_sem, y0, y1]; try rfl) rfl ⟨a1, n, c1, a2, _, c2, 0, rfl, HQ.out, ?_, .inr ⟨rfl, rfl, rfl, ?_, ?_⟩⟩
      · repeat (first | with_reducible exact HB2.out | with_reducible refine Below.setCell ?_ (by simp) _)
      · have h2 := HS1.out
        refine OwnNums.base (base := W1.heap.size) ?_ (by omega)
        repeat (first | with_reducible exact HO1.out | with_reducible refine OwnNums.set ?_ (by simp; omega) _)
      · have h2 := HS1.out
        refine OwnNums.base (base := W1.heap.size) ?_ (by omega)
        repeat (first | with_reducible exact HO2.out | with_reducible refine OwnNums.set ?_ (by simp; omega) _)
    · have hne : (q != 0) = true := by simpa using h0
      have H0 := Lib.hid h0
      clear h0
      have y0 := heap_cell HY1.out (j := 0) rfl
      have y1 := heap_cell HY1.out (j := 1) rfl
      have f0 := heap_frozen HY1.out 0
      have f1 := heap_frozen HY1.out 1
      go_wp2_with fail
      refine bodyPost_ret (v := .tuple #[pressV none 0 0 none 0 0, .int .i64 q]) (by simp [results, Try.results8, go_sem, y0, y1]; try rfl) rfl ⟨none, 0, 0, none, 0, 0, q, rfl, HQ.out, ?_, .inl ⟨H0.out, rfl, rfl, rfl, rfl, rfl, rfl⟩⟩
      repeat (first | with_reducible exact HB1.out | with_reducible refine Below.setCell ?_ (by simp) _)
end Go.Proofs.Ytmdmfiddabmaeaa
