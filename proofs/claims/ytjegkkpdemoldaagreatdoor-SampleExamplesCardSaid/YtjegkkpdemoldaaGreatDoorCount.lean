/-
  The contract of counter's closure: how many sets of k of n things there are; the memo stays true.
-/
import Derived.Test.YtjegkkpdemoldaaGreatDoorBase
namespace Go.Proofs.YtjegkkpdemoldaaGreatDoor
open Go.RowKit Go.Maps Go.WideMaps
open Go.WideElems (Fit)

/-- The function value that counter returns: it captured the boxes of the map and of itself. -/
abbrev setsV (T C : Nat) : Value := .func (.func 83) #[] #[.pointer (some ⟨T, 0, none⟩), .pointer (some ⟨C, 0, none⟩)]

/-- All that the closure finds in memory. -/
structure Cnt (w : World) (M T C : Nat) : Prop where
  told : w.cell? ⟨T, 0, none⟩ = some (.map (some M))
  self : w.cell? ⟨C, 0, none⟩ = some (setsV T C)
  memo : Memo w M

set_option maxHeartbeats 1000000 in
set_option maxRecDepth 100000 in
theorem count_none (T C : Nat) (n k : Int) (w : World) (hc : k < 0 ∨ n < k) :
    Calls Tryz.prog 83 #[.int .i64 n, .int .i64 k, .pointer (some ⟨T, 0, none⟩), .pointer (some ⟨C, 0, none⟩)] w fun e w' => e = .returned (.int .i64 0) ∧ w' = w := by
  by_cases h : k < 0
  · go_enter Tryz.func83, Tryz.ntmps83
    go_wp2_with fail
    go_ret
    exact ⟨rfl, rfl⟩
  · have h' : n < k := by omega
    go_enter Tryz.func83, Tryz.ntmps83
    go_wp2_with fail
    go_ret
    exact ⟨rfl, rfl⟩

set_option maxHeartbeats 1000000 in
set_option maxRecDepth 100000 in
theorem count_edge (T C : Nat) (n k : Int) (w : World) (h0 : 0 ≤ k) (h1 : k ≤ n) (hc : k = 0 ∨ k = n) :
    Calls Tryz.prog 83 #[.int .i64 n, .int .i64 k, .pointer (some ⟨T, 0, none⟩), .pointer (some ⟨C, 0, none⟩)] w fun e w' => e = .returned (.int .i64 1) ∧ w' = w := by
  by_cases h : k = 0
  · subst h
    go_enter Tryz.func83, Tryz.ntmps83
    go_wp2_with fail
    go_ret
    exact ⟨rfl, rfl⟩
  · obtain rfl : k = n := by omega
    have hb : (k == 0) = false := by simpa using h
    clear hc
    go_enter Tryz.func83, Tryz.ntmps83
    go_wp2_with fail
    go_ret
    exact ⟨rfl, rfl⟩

set_option maxHeartbeats 1000000 in
set_option maxRecDepth 100000 in
theorem count_mid (M T C : Nat) (n k : Int) (w : World) (h0 : 0 < k) (h1 : k < n) (h36 : n ≤ 36) (hw : Cnt w M T C)
    (ih : ∀ j : Int, j ≤ k → k - 1 ≤ j → ∀ w, Cnt w M T C → Calls Tryz.prog 83 #[.int .i64 (n - 1), .int .i64 j, .pointer (some ⟨T, 0, none⟩), .pointer (some ⟨C, 0, none⟩)] w fun e w' => e = .returned (.int .i64 (Pure.sets (n - 1) j)) ∧ Step M w w') :
    Calls Tryz.prog 83 #[.int .i64 n, .int .i64 k, .pointer (some ⟨T, 0, none⟩), .pointer (some ⟨C, 0, none⟩)] w fun e w' => e = .returned (.int .i64 (Pure.sets n k)) ∧ Step M w w' := by
  obtain ⟨hT, hC, hM⟩ := hw
  have hb : (k == 0) = false := by simp; omega
  have hb2 : (k == n) = false := by simp; omega
  have IH := Lib.hid ih
  clear ih
  rcases hM.look h0 h1 h36 with hl | hl
  · have hrun := hl (w.alloc (.cells #[.int .i64 n, .int .i64 k] 141)) (Below.heap_alloc _ _ _ hM.lt)
    clear hl
    have hT1 : (w.alloc (.cells #[.int .i64 n, .int .i64 k] 141)).cell? ⟨T, 0, none⟩ = some (.map (some M)) := (World.cell?_alloc_lt _ _ _ (World.block_lt_of_cell? w _ hT)).trans hT
    have hC1 : (w.alloc (.cells #[.int .i64 n, .int .i64 k] 141)).cell? ⟨C, 0, none⟩ = some (setsV T C) := (World.cell?_alloc_lt _ _ _ (World.block_lt_of_cell? w _ hC)).trans hC
    have HMT := Lib.hid (cell_not_map hM hT)
    have HMK : Hid (w.heap.size ≠ M) := by have := hM.lt; exact Lib.hid (by omega)
    have HCall : Hid (∀ (x : Among (Step M (w.alloc (.cells #[.int .i64 n, .int .i64 k] 141)))) (j : Int), j ≤ k → k - 1 ≤ j → Calls Tryz.prog 83 #[.int .i64 (n - 1), .int .i64 j, .pointer (some ⟨T, 0, none⟩), .pointer (some ⟨C, 0, none⟩)] x.val fun e w' => e = .returned (.int .i64 (Pure.sets (n - 1) j)) ∧ ∃ y : Among (Step M (w.alloc (.cells #[.int .i64 n, .int .i64 k] 141))), w' = y.val) :=
      Lib.hid (fun x j hj1 hj2 => calls_class ((IH.out j hj1 hj2 x.val ⟨x.ok.cell hT1 (cell_not_map hM hT), x.ok.cell hC1 (cell_not_map hM hC), x.ok.memo⟩).mono fun e w' h => ⟨h.1, x.ok.trans h.2⟩))
    have HSt := Lib.hid (Step.drew (Step.refl (hM.alloc (.cells #[.int .i64 n, .int .i64 k] 141))))
    have hMC := cell_not_map hM hC
    have hC2 : ∀ x : Among (Step M (w.alloc (.cells #[.int .i64 n, .int .i64 k] 141))), x.val.cell? ⟨C, 0, none⟩ = some (setsV T C) := fun x => x.ok.cell hC1 hMC
    clear hMC
    have HT := Lib.hid hT
    have HC := Lib.hid hC
    clear hT hC
    have HM := Lib.hid hM
    clear hM
    go_enter Tryz.func83, Tryz.ntmps83
    go_wp2_with fail
    refine wp_region_class (Step M (w.alloc (.cells #[.int .i64 n, .int .i64 k] 141))) (by kernel_rfl) (by kernel_rfl) HSt.out ?_
    have hne : Nonempty (Among (Step M (w.alloc (.cells #[.int .i64 n, .int .i64 k] 141)))) := ⟨⟨_, HSt.out⟩⟩
    have hs1 := Pure.sets_nonneg (n - 1) (k - 1)
    have hs2 := Pure.sets_nonneg (n - 1) k
    have hs3 := Pure.sets_le (n := n - 1) (k := k - 1) (by omega)
    have hs4 := Pure.sets_le (n := n - 1) (k := k) (by omega)
    repeat (go_big_quiet_step ((go_at_call 83; exact HCall.out _ _ (by omega) (by omega))))
    refine wpQuiet_nil ?_
    intro w2 hx
    have hS2 := among_out hx
    clear hx
    have hT2 : w2.cell? ⟨T, 0, none⟩ = some (.map (some M)) := hS2.cell hT1 HMT.out
    have hK2 : w2.cell? ⟨w.heap.size, 0, none⟩ = some (.int .i64 n) := hS2.cell (by simp) HMK.out
    have hK3 : w2.cell? ⟨w.heap.size, 1, none⟩ = some (.int .i64 k) := hS2.cell (by simp) HMK.out
    obtain ⟨w3, hrun3, hS3⟩ := hS2.memo.store h0 h1 h36
    rw [Pure.sets_step h0 h1] at hrun3
    have HS2 := Lib.hid hS2
    clear hS2 hne hC2 hrun
    go_wp2_with fail
    go_ret
    exact ⟨ret_int (Pure.sets_step h0 h1).symm, (((Step.refl HM.out).alloc _).trans HS2.out).trans hS3⟩
  · have hrun := hl (w.alloc (.cells #[.int .i64 n, .int .i64 k] 141)) (Below.heap_alloc _ _ _ hM.lt)
    clear hl
    have hT1 : (w.alloc (.cells #[.int .i64 n, .int .i64 k] 141)).cell? ⟨T, 0, none⟩ = some (.map (some M)) := (World.cell?_alloc_lt _ _ _ (World.block_lt_of_cell? w _ hT)).trans hT
    have hC1 : (w.alloc (.cells #[.int .i64 n, .int .i64 k] 141)).cell? ⟨C, 0, none⟩ = some (setsV T C) := (World.cell?_alloc_lt _ _ _ (World.block_lt_of_cell? w _ hC)).trans hC
    have HMT := Lib.hid (cell_not_map hM hT)
    have HMK : Hid (w.heap.size ≠ M) := by have := hM.lt; exact Lib.hid (by omega)
    have HCall : Hid (∀ (x : Among (Step M (w.alloc (.cells #[.int .i64 n, .int .i64 k] 141)))) (j : Int), j ≤ k → k - 1 ≤ j → Calls Tryz.prog 83 #[.int .i64 (n - 1), .int .i64 j, .pointer (some ⟨T, 0, none⟩), .pointer (some ⟨C, 0, none⟩)] x.val fun e w' => e = .returned (.int .i64 (Pure.sets (n - 1) j)) ∧ ∃ y : Among (Step M (w.alloc (.cells #[.int .i64 n, .int .i64 k] 141))), w' = y.val) :=
      Lib.hid (fun x j hj1 hj2 => calls_class ((IH.out j hj1 hj2 x.val ⟨x.ok.cell hT1 (cell_not_map hM hT), x.ok.cell hC1 (cell_not_map hM hC), x.ok.memo⟩).mono fun e w' h => ⟨h.1, x.ok.trans h.2⟩))
    have HSt := Lib.hid (Step.drew (Step.refl (hM.alloc (.cells #[.int .i64 n, .int .i64 k] 141))))
    have hMC := cell_not_map hM hC
    have hC2 : ∀ x : Among (Step M (w.alloc (.cells #[.int .i64 n, .int .i64 k] 141))), x.val.cell? ⟨C, 0, none⟩ = some (setsV T C) := fun x => x.ok.cell hC1 hMC
    clear hMC
    have HT := Lib.hid hT
    have HC := Lib.hid hC
    clear hT hC
    have HM := Lib.hid hM
    clear hM
    go_enter Tryz.func83, Tryz.ntmps83
    go_wp2_with fail
    go_ret
    exact ⟨rfl, (Step.refl HM.out).alloc _⟩

/-- **counter's closure**: at any n up to 36, and any k. -/
theorem count_any (M T C : Nat) : ∀ (N : Nat) (n k : Int), n ≤ N → n ≤ 36 → ∀ w, Cnt w M T C →
    Calls Tryz.prog 83 #[.int .i64 n, .int .i64 k, .pointer (some ⟨T, 0, none⟩), .pointer (some ⟨C, 0, none⟩)] w fun e w' => e = .returned (.int .i64 (Pure.sets n k)) ∧ Step M w w' := by
  intro N
  induction N with
  | zero =>
    intro n k hN h36 w hw
    by_cases hc : k < 0 ∨ n < k
    · refine (count_none T C n k w hc).mono ?_
      rintro e w' ⟨rfl, rfl⟩
      exact ⟨by rw [Pure.sets_none hc], Step.refl hw.memo⟩
    · refine (count_edge T C n k w (by omega) (by omega) (by omega)).mono ?_
      rintro e w' ⟨rfl, rfl⟩
      exact ⟨by rw [Pure.sets_edge (by omega) (by omega) (by omega)], Step.refl hw.memo⟩
  | succ N ih =>
    intro n k hN h36 w hw
    by_cases hc : k < 0 ∨ n < k
    · refine (count_none T C n k w hc).mono ?_
      rintro e w' ⟨rfl, rfl⟩
      exact ⟨by rw [Pure.sets_none hc], Step.refl hw.memo⟩
    · by_cases he : k = 0 ∨ k = n
      · refine (count_edge T C n k w (by omega) (by omega) he).mono ?_
        rintro e w' ⟨rfl, rfl⟩
        exact ⟨by rw [Pure.sets_edge (by omega) (by omega) he], Step.refl hw.memo⟩
      · exact count_mid M T C n k w (by omega) (by omega) h36 hw (fun j _ _ w hw => ih (n - 1) j (by omega) (by omega) w hw)

theorem count_calls {M T C : Nat} {n k : Int} {w : World} (h : n ≤ 36) (hw : Cnt w M T C) :
    Calls Tryz.prog 83 #[.int .i64 n, .int .i64 k, .pointer (some ⟨T, 0, none⟩), .pointer (some ⟨C, 0, none⟩)] w fun e w' => e = .returned (.int .i64 (Pure.sets n k)) ∧ Step M w w' :=
  count_any M T C 36 n k h h w hw

theorem Cnt.step {w w' : World} {M T C : Nat} (h : Cnt w M T C) (s : Step M w w') : Cnt w' M T C :=
  ⟨s.cell h.told (cell_not_map h.memo h.told), s.cell h.self (cell_not_map h.memo h.self), s.memo⟩
theorem Cnt.alloc {w : World} {M T C : Nat} (h : Cnt w M T C) (o : Obj) : Cnt (w.alloc o) M T C := h.step ((Step.refl h.memo).alloc o)
theorem below_step {n M : Nat} {w w1 w2 : World} (h : Below n w w1) (s : Step M w1 w2) (h1 : n ≤ w1.heap.size) (hM : n ≤ M) : Below n w w2 :=
  h.grown s.grown h1 (fun k e => by cases e; exact hM)
theorem Cnt.drew {w : World} {M T C : Nat} (h : Cnt w M T C) : Cnt w.drew M T C := h.step ((Step.refl h.memo).drew)

set_option maxHeartbeats 1000000 in
/-- **counter()**: a new memo with nothing in it. -/
theorem counter_any (w : World) : Calls Tryz.prog 59 #[] w fun e w' => ∃ M T C : Nat, e = .returned (setsV T C) ∧ w.heap.size ≤ M ∧ Cnt w' M T C ∧ w.grownBy w' none := by
  have hmm := @run_makeMap Tryz.prog
  go_enter Tryz.func59, Tryz.ntmps59
  go_wp2_with fail
  go_ret
  refine ⟨w.heap.size, w.heap.size + 1, w.heap.size + 1 + 1, rfl, Nat.le_refl _, ⟨?_, ?_, ((Memo.made w).alloc _).alloc _⟩, ?_⟩
  · exact cell_up (cell_top _ _ _ (by simp)) _
  · exact cell_top _ _ _ (by simp)
  · exact ⟨rfl, rfl, rfl, by simp; omega, fun k hk _ => by
      rw [Below.heap_alloc _ _ _ (by simp; omega), Below.heap_alloc _ _ _ (by simp; omega), Below.heap_alloc _ _ _ hk]⟩

end Go.Proofs.YtjegkkpdemoldaaGreatDoor
