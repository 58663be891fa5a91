/-
  The contract of at: a press at work, and which of its pressings has an Id.
-/
import Derived.Test.YtmdmfiddabmaeaaQWork
namespace Go.Proofs.Ytmdmfiddabmaeaa
open Go.RowKit

section
variable {o : Oper} {a : Act} {w : World}
theorem exec_mill_load (x : Operand) (ho : o.op = .load 64 x) (B : Nat) (cs : Array Value) (hx : a.eval x = .pointer (some ⟨B, 0, none⟩)) (hM : w.heap[B]? = some (millB cs)) (hs : cs.size = 152) : (execOp a.eval o).run Try.prog w = .ok (.value (.agg cs)) w := by
  have hr := run_loadVar_row (P := Try.prog) w B 64 64 cs (0, 0) _ hM Try.underlying64 rfl (by rw [millSize, hs])
  unfold execOp
  simp only [ho, hx, Instr.loadAt, Instr.sureAddr, Sem.run_bind, Sem.run_pure, Result.andThen_ok, hr]
theorem exec_mill_store (x y : Operand) (ho : o.op = .store 64 x y) (B : Nat) (cs old : Array Value) (hx : a.eval x = .pointer (some ⟨B, 0, none⟩)) (hy : a.eval y = .agg cs) (hM : w.heap[B]? = some (millB old)) (hold : old.size = 152) (hs : cs.size = 152) (h1 : cs.all (·.oneCell') = true) : (execOp a.eval o).run Try.prog w = .ok .skip (w.setRow B cs) := by
  have hr := run_storeVar_row (P := Try.prog) w B 64 64 old cs hM (by rw [millSize, hs]) (by rw [hold, hs]) h1
  unfold execOp
  simp only [ho, hx, hy, Instr.storeAt, Instr.sureAddr, Sem.run_bind, Sem.run_pure, Result.andThen_ok, hr]
end
/-- What at tells. -/
def AtCode (n : Nat) (F : Nat → Int) (m : Nat) (G : Nat → Int) (id i q : Int) : Prop :=
  (Pure.press n F m G = false ∧ q = 20) ∨ (Pure.press n F m G = true ∧ Pure.index n F id < 0 ∧ q = 6) ∨ (Pure.press n F m G = true ∧ 0 ≤ Pure.index n F id ∧ i = Pure.index n F id ∧ q = 0)
def AtOut (n : Nat) (F : Nat → Int) (m : Nat) (G : Nat → Int) (id : Int) (w : World) (e : Ending) (w' : World) : Prop :=
  ∃ cs i q, e = .returned (.tuple #[.agg cs, .int .i64 i, .int .i64 q]) ∧ cs.size = 152 ∧ cs.all (·.oneCell') = true ∧ AtCode n F m G id i q ∧ Below w.heap.size w w'
theorem press_or (r : Bool) {a : Option Addr} {n c : Nat} {b : Option Addr} {m d : Nat} {F : Nat → Int} {cs : Array Value} {w : World} (hF : NumsAt w a (n * 4) F) (hn : n ≤ 60) (h : if r = true then Mill a n c b m d cs else Mill none 0 0 none 0 0 cs) :
    ∃ a' n' c' b' m' d', Mill a' n' c' b' m' d' cs ∧ NumsAt w a' (n' * 4) F ∧ n' ≤ 60 ∧ (r = true → n' = n) := by
  cases r
  · exact ⟨none, 0, 0, none, 0, 0, h, fun j hj => by omega, by omega, fun e => by cases e⟩
  · exact ⟨a, n, c, b, m, d, h, hF, hn, fun _ => rfl⟩
theorem at_code {n n' : Nat} {F : Nat → Int} {m : Nat} {G : Nat → Int} {id v q : Int} (hn : Pure.press n F m G = true → n' = n) (hv : Pure.index n' F id = v) (hq : (if Pure.err (Pure.press n F m G) 20 = 0 then Pure.err (decide (v ≥ 0)) 6 else Pure.err (Pure.press n F m G) 20) = q) : AtCode n F m G id v q := by
  cases h : Pure.press n F m G
  · rw [h] at hq
    exact .inl ⟨h, by rw [← hq]; rfl⟩
  · rw [h] at hq
    have e := hn h
    subst e
    by_cases g : v ≥ 0
    · exact .inr (.inr ⟨h, by omega, hv.symm, by rw [← hq]; simp [Pure.err, g]⟩)
    · exact .inr (.inl ⟨h, by omega, by rw [← hq]; simp [Pure.err]; omega⟩)

set_option maxHeartbeats 8000000 in
set_option maxRecDepth 100000 in
theorem at_any (a : Option Addr) (n c : Nat) (b : Option Addr) (m d : Nat) (F G : Nat → Int) (id : Int) (hn : n ≤ 60) (hm : m ≤ 60) (w : World) (hF : NumsAt w a (n * 4) F) (hG : NumsAt w b (m * 5) G) :
    Calls Try.prog 26 #[pressV a n c b m d, .int .i64 id] w (AtOut n F m G id w) := by
  obtain ⟨W, hW⟩ : ∃ W, (w.alloc (pressB a n c b m d)).alloc (millB (millZ none 0 0 none 0 0)) = W := ⟨_, rfl⟩
  have HB : Hid (Below w.heap.size w W) := Lib.hid (by rw [← hW]; exact (below_new _ _).alloc (by simp) _)
  have HX : Hid (W.heap[w.heap.size]? = some (pressB a n c b m d)) := Lib.hid (by rw [← hW]; exact heap_up (heap_top _ _ rfl) _)
  have HY : Hid (W.heap[w.heap.size + 1]? = some (millB (millZ none 0 0 none 0 0))) := Lib.hid (by rw [← hW]; exact heap_top _ _ (by simp))
  have HF := Lib.hid (hF.below HB.out)
  have HG := Lib.hid (hG.below HB.out)
  have HF0 := Lib.hid hF
  clear hF hG
  have x0 := heap_cell HX.out (j := 0) rfl
  have x1 := heap_cell HX.out (j := 1) rfl
  go_enter Try.func26, Try.ntmps26
  go_upto_region 1 with fail
  rw [mill_zeroCells]
  try rw [hW]
  clear hW
  go_wp2_with fail
  refine (work_any a n c b m d F G hn hm _ HF.out HG.out).mono ?_
  rintro e W1 ⟨cs, rfl, hcs, hb⟩
  obtain ⟨a', n', c', b', m', d', hmi, hF1, hn', hsame⟩ := press_or _ HF0.out hn hcs
  have HMI := Lib.hid hmi
  have HF1 := Lib.hid hF1
  have HSA := Lib.hid hsame
  have HY1 := Lib.hid (heap_lft HY.out hb)
  have HB1 := Lib.hid (below_thn HB.out hb)
  clear hb x0 x1 hcs hF1 hmi hsame
  have hz0 := mill_zero none 0 0 none 0 0
  have hms := HMI.out.size
  have hm1 := HMI.out.one
  go_upto_region 2 with (first | (with_reducible refine wpList_mill_store rfl _ _ rfl (w.heap.size + 1) _ _ rfl rfl HY1.out hz0.size hms hm1 ?_; intro W2 hy2 ho2 hb2) | go_in)
  have HY2 := Lib.hid hy2
  have HB2 : Hid (Below w.heap.size w W2) := Lib.hid (hb2 _ _ (by omega) HB1.out)
  have HF2 : Hid (NumsAt W2 a' (n' * 4) F) := Lib.hid (HF1.out.below HB2.out)
  clear hy2 hb2 ho2
  have y0 := heap_cell HY2.out HMI.out.p0
  have y1 := heap_cell HY2.out HMI.out.p1
  go_wp2_with fail
  refine (index_any a' n' c' b' m' d' F id hn' _ HF2.out).mono ?_
  rintro e W3 ⟨rfl, hb⟩
  have HY3 := Lib.hid (heap_lft HY2.out hb)
  have HB3 := Lib.hid (below_thn HB2.out hb)
  clear hb y0 y1
  obtain ⟨v, hv⟩ : ∃ v, Pure.index n' F id = v := ⟨_, rfl⟩
  rw [hv]
  obtain ⟨q, hq⟩ : ∃ q, (if (Pure.err (Pure.press n F m G) 20) = 0 then (Pure.err (decide (v ≥ 0)) 6) else (Pure.err (Pure.press n F m G) 20)) = q := ⟨_, rfl⟩
  have HC : Hid (AtCode n F m G id v q) := Lib.hid (at_code HSA.out hv hq)
  have HQ := Lib.hid hq
  clear hq hv
  go_upto_region 3 with fail
  go_cut [5, 6] from 16 to 23 (fun s5 s6 wx => s5 = .int .i64 v ∧ s6 = .int .i64 q ∧ wx.heap[w.heap.size + 1]? = some (millB cs) ∧ Below w.heap.size w wx)
  case first =>
    rename_i J K' hJ hK'
    generalize hA : (Act.mk _ _ : Act) = a0
    have m5 : At a0 5 (.int .i64 v) := by rw [← hA]; rfl
    have m6 : At a0 6 (.int .i64 (Pure.err (Pure.press n F m G) 20)) := by rw [← hA]; rfl
    have m4 : At a0 4 (.pointer (some ⟨w.heap.size + 1, 0, none⟩)) := by rw [← hA]; rfl
    have hsz : 23 < a0.tmps.size := by rw [← hA]; exact of_decide_eq_true (by kernel_rfl)
    have hfin : ∀ a' w', Kept (5 :: 6 :: List.range' 16 8) a0 a' → At a' 5 (.int .i64 v) → At a' 6 (.int .i64 q) → (w'.heap[w.heap.size + 1]? = some (millB cs) ∧ Below w.heap.size w w') → K' a' w' := by
      intro a' w' hI hv5 hv6 hL
      refine hK' _ _ (Met.intro (hJ _ _ ⟨a'.tmps.getD 5 undef, a'.tmps.getD 6 undef, a'.tmps.getD 16 undef, a'.tmps.getD 17 undef, a'.tmps.getD 18 undef, a'.tmps.getD 19 undef, a'.tmps.getD 20 undef, a'.tmps.getD 21 undef, a'.tmps.getD 22 undef, a'.tmps.getD 23 undef, ⟨by have g := hv5; unfold At at g; rw [Array.getD_eq_getD_getElem?, g]; rfl, by have g := hv6; unfold At at g; rw [Array.getD_eq_getD_getElem?, g]; rfl, hL⟩, hI.eq.trans ?_⟩))
      rw [← hA]
      kernel_rfl
    have hI : Kept (5 :: 6 :: List.range' 16 8) a0 a0 := Kept.refl _ _
    clear hA hJ hK' J
    refine with_pan (fun d _ _ _ _ h => by cases d <;> exact h) ?_
    intro hpan
    refine wp_region_rest (fun z => z.heap[w.heap.size + 1]? = some (millB cs)) (by kernel_rfl) ?_
    obtain ⟨wz, hwz⟩ : ∃ x, W3.drew = x := ⟨_, rfl⟩
    change Rest _ _ _ _ _ _ _ (W3.drew)
    rw [hwz]
    have hq : Below W3.heap.size W3 wz := by rw [← hwz]; exact (Below.refl _ _).drew
    clear hwz
    have n5 : At a0 5 (.int .i64 v) := m5
    have n6 : At a0 6 (.int .i64 (Pure.err (Pure.press n F m G) 20)) := m6
    clear m5 m6
    have hS := heap_lft HY3.out hq
    refine rest_take (k := 0) (d := 16) (v := .agg cs) hI rfl rfl (by kernel_rfl) (Nat.lt_of_le_of_lt (by decide) hsz) (by kernel_rfl) hpan (by kernel_rfl) hS (wanted_free rfl) (fun z hz => by have n4 := hI.at m4 (by kernel_rfl); have e4 := n4; have f4 := n4.eval; unfold At at e4; exact exec_mill_load (.tmp 4) rfl (w.heap.size + 1) cs f4 hz HMI.out.size) (fun a' hI' n16' hk => ?_)
    replace n5 := hk _ _ n5 rfl
    replace n6 := hk _ _ n6 rfl
    have n16 := n16'
    replace hI := hI'
    clear hk hI' n16'
    obtain ⟨act9, rfl⟩ : ∃ x, x = a' := ⟨_, rfl⟩
    refine rest_take (k := 1) (d := 17) (v := .int .i64 v) hI rfl rfl (by kernel_rfl) (Nat.lt_of_le_of_lt (by decide) hsz) (by kernel_rfl) hpan (by kernel_rfl) hS (wanted_free rfl) (fun z hz => by have e5 := n5; have f5 := n5.eval; unfold At at e5; simp [go_sem, BigFrame.eval_const, BigFrame.eval_global, BigFrame.eval_func, e5, f5]) (fun a' hI' n17' hk => ?_)
    replace n5 := hk _ _ n5 rfl
    replace n6 := hk _ _ n6 rfl
    replace n16 := hk _ _ n16 rfl
    have n17 := n17'
    replace hI := hI'
    clear hk hI' n17'
    obtain ⟨act9, rfl⟩ : ∃ x, x = a' := ⟨_, rfl⟩
    refine rest_take (k := 2) (d := 18) (v := .int .i64 (Pure.err (Pure.press n F m G) 20)) hI rfl rfl (by kernel_rfl) (Nat.lt_of_le_of_lt (by decide) hsz) (by kernel_rfl) hpan (by kernel_rfl) hS (wanted_free rfl) (fun z hz => by have e6 := n6; have f6 := n6.eval; unfold At at e6; simp [go_sem, BigFrame.eval_const, BigFrame.eval_global, BigFrame.eval_func, e6, f6]) (fun a' hI' n18' hk => ?_)
    replace n5 := hk _ _ n5 rfl
    replace n6 := hk _ _ n6 rfl
    replace n16 := hk _ _ n16 rfl
    replace n17 := hk _ _ n17 rfl
    have n18 := n18'
    replace hI := hI'
    clear hk hI' n18'
    obtain ⟨act9, rfl⟩ : ∃ x, x = a' := ⟨_, rfl⟩
    refine rest_take (k := 3) (d := 19) (v := .int .i64 v) hI rfl rfl (by kernel_rfl) (Nat.lt_of_le_of_lt (by decide) hsz) (by kernel_rfl) hpan (by kernel_rfl) hS (wanted_free rfl) (fun z hz => by have e5 := n5; have f5 := n5.eval; unfold At at e5; simp [go_sem, BigFrame.eval_const, BigFrame.eval_global, BigFrame.eval_func, e5, f5]) (fun a' hI' n19' hk => ?_)
    replace n5 := hk _ _ n5 rfl
    replace n6 := hk _ _ n6 rfl
    replace n16 := hk _ _ n16 rfl
    replace n17 := hk _ _ n17 rfl
    replace n18 := hk _ _ n18 rfl
    have n19 := n19'
    replace hI := hI'
    clear hk hI' n19'
    obtain ⟨act9, rfl⟩ : ∃ x, x = a' := ⟨_, rfl⟩
    refine rest_take (k := 4) (d := 20) (v := .bool (decide (v ≥ 0))) hI rfl rfl (by kernel_rfl) (Nat.lt_of_le_of_lt (by decide) hsz) (by kernel_rfl) hpan (by kernel_rfl) hS (wanted_free rfl) (fun z hz => by have e19 := n19; have f19 := n19.eval; unfold At at e19; simp [go_sem, BigFrame.eval_const, BigFrame.eval_global, BigFrame.eval_func, e19, f19]) (fun a' hI' n20' hk => ?_)
    replace n5 := hk _ _ n5 rfl
    replace n6 := hk _ _ n6 rfl
    replace n16 := hk _ _ n16 rfl
    replace n17 := hk _ _ n17 rfl
    replace n18 := hk _ _ n18 rfl
    replace n19 := hk _ _ n19 rfl
    have n20 := n20'
    replace hI := hI'
    clear hk hI' n20'
    obtain ⟨act9, rfl⟩ : ∃ x, x = a' := ⟨_, rfl⟩
    clear n19
    refine rest_only (k := 5) (by kernel_rfl) (op_call (k := 5) (d := 21) (R := fun x w' => x = .int .i64 (Pure.err (decide (v ≥ 0)) 6) ∧ wz = w') hI rfl rfl (by kernel_rfl) (Nat.lt_of_le_of_lt (by decide) hsz) (wanted_free rfl) ((unless_any _ _ _).mono fun e w' g => ⟨_, g.1, rfl, g.2⟩) (by have e20 := n20; have f20 := n20.eval; unfold At at e20; simp [go_sem, BigFrame.eval_const, BigFrame.eval_global, BigFrame.eval_func, e20, f20]) ?_)
    intro v w' a' hR hI' n21' hk
    obtain ⟨rfl, rfl⟩ := hR
    refine ⟨hS, ?_⟩
    replace n5 := hk _ _ n5 rfl
    replace n6 := hk _ _ n6 rfl
    replace n16 := hk _ _ n16 rfl
    replace n17 := hk _ _ n17 rfl
    replace n18 := hk _ _ n18 rfl
    replace n20 := hk _ _ n20 rfl
    have n21 := n21'
    replace hI := hI'
    clear hk hI' n21'
    obtain ⟨act9, rfl⟩ : ∃ x, x = a' := ⟨_, rfl⟩
    clear n20
    have hn1 := below_new wz (.cells #[.int .i64 (Pure.err (Pure.press n F m G) 20), .int .i64 (Pure.err (decide (v ≥ 0)) 6)] 33)
    have hq1 := below_thn hq hn1
    have hs1 := heap_lft hS hn1
    have hc0 := cells_top wz #[.int .i64 (Pure.err (Pure.press n F m G) 20), .int .i64 (Pure.err (decide (v ≥ 0)) 6)] 33 rfl 0
    have hc1 := cells_top wz #[.int .i64 (Pure.err (Pure.press n F m G) 20), .int .i64 (Pure.err (decide (v ≥ 0)) 6)] 33 rfl 1
    obtain ⟨u2, hu2⟩ : ∃ x, wz.alloc (.cells #[.int .i64 (Pure.err (Pure.press n F m G) 20), .int .i64 (Pure.err (decide (v ≥ 0)) 6)] 33) = x := ⟨_, rfl⟩
    rw [hu2] at hn1 hq1 hs1 hc0 hc1
    refine rest_only (k := 6) (by kernel_rfl) (op_value (k := 6) (d := 22) (v := .slice (some ⟨wz.heap.size, 0, none⟩) 2 2) hI rfl rfl (by kernel_rfl) (Nat.lt_of_le_of_lt (by decide) hsz) (wanted_free rfl) (by have e18 := n18; have f18 := n18.eval; unfold At at e18; have e21 := n21; have f21 := n21.eval; unfold At at e21; simp [go_sem, BigFrame.eval_const, BigFrame.eval_global, BigFrame.eval_func, e18, f18, e21, f21]; try rfl) (fun a' hI' n22' hk => ⟨by rw [hu2]; exact hs1, ?_⟩))
    replace n5 := hk _ _ n5 rfl
    replace n6 := hk _ _ n6 rfl
    replace n16 := hk _ _ n16 rfl
    replace n17 := hk _ _ n17 rfl
    replace n18 := hk _ _ n18 rfl
    replace n21 := hk _ _ n21 rfl
    have n22 := n22'
    replace hI := hI'
    clear hk hI' n22'
    obtain ⟨act9, rfl⟩ : ∃ x, x = a' := ⟨_, rfl⟩
    rw [hu2]
    clear hu2 hS hq hn1
    replace hS := hs1
    replace hq := hq1
    clear hs1 hq1
    clear n18
    clear n21
    refine rest_only (k := 7) (by kernel_rfl) (op_call (k := 7) (d := 23) (R := fun x w' => x = .int .i64 q ∧ u2 = w') hI rfl rfl (by kernel_rfl) (Nat.lt_of_le_of_lt (by decide) hsz) (wanted_free rfl) ((firstError2 _ _ _ 2 _ hc0 hc1).mono fun e w' g => ⟨_, g.1, congrArg (Value.int .i64) HQ.out, g.2⟩) (by have e22 := n22; have f22 := n22.eval; unfold At at e22; simp [go_sem, BigFrame.eval_const, BigFrame.eval_global, BigFrame.eval_func, e22, f22]) ?_)
    intro v w' a' hR hI' n23' hk
    obtain ⟨rfl, rfl⟩ := hR
    refine ⟨hS, ?_⟩
    replace n5 := hk _ _ n5 rfl
    replace n6 := hk _ _ n6 rfl
    replace n16 := hk _ _ n16 rfl
    replace n17 := hk _ _ n17 rfl
    replace n22 := hk _ _ n22 rfl
    have n23 := n23'
    replace hI := hI'
    clear hk hI' n23'
    obtain ⟨act9, rfl⟩ : ∃ x, x = a' := ⟨_, rfl⟩
    clear n22
    have hs2 := setRow_heap u2 (w.heap.size + 1) _ cs _ _ hS
    have hb2 := below_setRow (below_thn HB3.out hq) (show w.heap.size ≤ w.heap.size + 1 by omega) cs
    refine rest_only (k := 8) (by kernel_rfl) (op_store (k := 8) rfl rfl (wanted_free rfl) (by have n4 := hI.at m4 (by kernel_rfl); have e4 := n4; have f4 := n4.eval; unfold At at e4; have e16 := n16; have f16 := n16.eval; unfold At at e16; exact exec_mill_store (.tmp 4) (.tmp 16) rfl (w.heap.size + 1) cs _ f4 f16 hS HMI.out.size HMI.out.size HMI.out.one) ⟨hs2, ?_⟩)
    replace hS := hs2
    clear hs2
    clear n16
    refine rest_take (k := 9) (d := 5) (v := .int .i64 v) hI rfl rfl (by kernel_rfl) (Nat.lt_of_le_of_lt (by decide) hsz) (by kernel_rfl) hpan (by kernel_rfl) hS (wanted_free rfl) (fun z hz => by have e17 := n17; have f17 := n17.eval; unfold At at e17; simp [go_sem, BigFrame.eval_const, BigFrame.eval_global, BigFrame.eval_func, e17, f17]) (fun a' hI' n5' hk => ?_)
    replace n6 := hk _ _ n6 rfl
    replace n17 := hk _ _ n17 rfl
    replace n23 := hk _ _ n23 rfl
    have n5 := n5'
    replace hI := hI'
    clear hk hI' n5'
    obtain ⟨act9, rfl⟩ : ∃ x, x = a' := ⟨_, rfl⟩
    refine rest_take (k := 10) (d := 6) (v := .int .i64 q) hI rfl rfl (by kernel_rfl) (Nat.lt_of_le_of_lt (by decide) hsz) (by kernel_rfl) hpan (by kernel_rfl) hS (wanted_free rfl) (fun z hz => by have e23 := n23; have f23 := n23.eval; unfold At at e23; simp [go_sem, BigFrame.eval_const, BigFrame.eval_global, BigFrame.eval_func, e23, f23]) (fun a' hI' n6' hk => ?_)
    replace n5 := hk _ _ n5 rfl
    replace n17 := hk _ _ n17 rfl
    replace n23 := hk _ _ n23 rfl
    have n6 := n6'
    replace hI := hI'
    clear hk hI' n6'
    obtain ⟨act9, rfl⟩ : ∃ x, x = a' := ⟨_, rfl⟩
    refine rest_done (by kernel_rfl) ?_
    exact hfin _ _ hI n5 n6 ⟨hS, hb2⟩
  case rest =>
    obtain ⟨W4, rfl⟩ : ∃ x, x = wc := ⟨_, rfl⟩
    obtain ⟨rfl, rfl, hy4, hb4⟩ := hcut
    go_wp2_with fail
    refine bodyPost_ret (v := .tuple #[.agg cs, .int .i64 v, .int .i64 q]) ?_ rfl ⟨cs, v, q, rfl, HMI.out.size, HMI.out.one, HC.out, hb4⟩
    exact results_mill3 Try.results26 _ W4 (w.heap.size + 1) _ _ _ rfl rfl rfl hy4 HMI.out.size
end Go.Proofs.Ytmdmfiddabmaeaa
