/-
  The contracts of Add, of the program and of the specification.
-/
import Derived.Test.YtijfdfplebbaaabVRTurn
namespace Go.Proofs.Ytijfdfplebbaaab
open Go.RowKit

/-- The numbers of one stamper. -/
def rowX (c u p : Int) : Nat → Int := fun j => if j = 0 then c else if j = 1 then u else p
theorem nums_stamp {w : World} {B : Nat} {c u p : Int} (h : w.heap[B]? = some (stampB c u p)) : NumsAt w (some ⟨B, 0, none⟩) (1 * 3) (rowX c u p) := fun j hj => by
  refine ⟨B, 0, rfl, ?_⟩
  have hj3 : j = 0 ∨ j = 1 ∨ j = 2 := by omega
  rcases hj3 with rfl | rfl | rfl
  · exact heap_cell h rfl
  · exact heap_cell h rfl
  · exact heap_cell h rfl
namespace Pure
def appF (F : Nat → Int) (n : Nat) (c u p : Int) : Nat → Int := joinF F (n * 3) (rowX c u p)
def fullC (m : Int) (n : Nat) (F : Nat → Int) : Int := if err (shaft m n F) 102 = 0 then err (decide ((n : Int) < 4)) 9 else err (shaft m n F) 102
def addC (m : Int) (n : Nat) (F : Nat → Int) (c u p : Int) : Int := if fullC m n F = 0 then err (shaft m (n + 1) (appF F n c u p)) 2 else fullC m n F
end Pure
/-- What Add answers: a shaft of the call's own memory, none beside an error. -/
def AddOut (m : Int) (n : Nat) (G : Nat → Int) (code : Int) (w : World) (e : Ending) (w' : World) : Prop :=
  ∃ mm a k c, e = .returned (.tuple #[shaftV mm a k c, .int .i64 code]) ∧ mm = (if code = 0 then m else 0) ∧ k = (if code = 0 then n + 1 else 0) ∧ OwnNums w' w.heap.size 27 3 a k c G ∧ Below w.heap.size w w'

set_option maxHeartbeats 16000000 in
set_option maxRecDepth 100000 in
/-- **Add**, the program's. -/
theorem add_any (m : Int) (a : Option Addr) (n cc : Nat) (F : Nat → Int) (c u p : Int) (hn : n ≤ 20) (hnil : a = none → n = 0 ∧ cc = 0) (w : World) (hF : NumsAt w a (n * 3) F) :
    Calls Try.prog 8 #[shaftV m a n cc, stampV c u p] w (AddOut m n (Pure.appF F n c u p) (Pure.addC m n F c u p) w) := by
  obtain ⟨W, hW⟩ : ∃ W, ((w.alloc (shaftB m a n cc)).alloc (stampB c u p)).alloc (shaftB 0 none 0 0) = W := ⟨_, rfl⟩
  have HB : Hid (Below w.heap.size w W) := Lib.hid (by rw [← hW]; exact ((below_new _ _).alloc (by simp) _).alloc (by simp; omega) _)
  have HX : Hid (W.heap[w.heap.size]? = some (shaftB m a n cc)) := Lib.hid (by rw [← hW]; exact heap_up (heap_up (heap_top _ _ rfl) _) _)
  have HI : Hid (W.heap[w.heap.size + 1]? = some (stampB c u p)) := Lib.hid (by rw [← hW]; exact heap_up (heap_top _ _ (by simp)) _)
  have HY : Hid (W.heap[w.heap.size + 1 + 1]? = some (shaftB 0 none 0 0)) := Lib.hid (by rw [← hW]; exact heap_top _ _ (by simp))
  have HSZ : Hid (W.heap.size = w.heap.size + 3) := Lib.hid (by rw [← hW]; simp)
  have HP := Lib.hid (hF.below HB.out)
  have HZ := Lib.hid hnil
  clear hF hnil
  obtain ⟨q, hq⟩ : ∃ q, Pure.fullC m n F = q := ⟨_, rfl⟩
  unfold Pure.addC
  rw [hq]
  unfold Pure.fullC at hq
  have HQ := Lib.hid hq
  clear hq
  obtain ⟨code, hcd⟩ : ∃ z, (if q = 0 then Pure.err (Pure.shaft m (n + 1) (Pure.appF F n c u p)) 2 else q) = z := ⟨_, rfl⟩
  rw [hcd]
  have HCD := Lib.hid hcd
  clear hcd
  go_enter Try.func8, Try.ntmps8
  go_upto_region 1 with fail
  try rw [hW]
  clear hW
  go_cut [6] from 7 to 15 (fun s wx => s = .int .i64 q ∧ Below W.heap.size W wx)
  case first =>
    rename_i J K' hJ hK'
    generalize hA : (Act.mk _ _ : Act) = a0
    have m2 : At a0 2 (.pointer (some ⟨w.heap.size, 0, none⟩)) := by rw [← hA]; rfl
    have hsz : 15 < a0.tmps.size := by rw [← hA]; exact of_decide_eq_true (by kernel_rfl)
    have hfin : ∀ a' w', Kept (6 :: List.range' 7 9) a0 a' → At a' 6 (.int .i64 q) → (Below W.heap.size W w') → K' a' w' := by
      intro a' w' hI hv6 hL
      refine hK' _ _ (Met.intro (hJ _ _ ⟨a'.tmps.getD 6 undef, a'.tmps.getD 7 undef, a'.tmps.getD 8 undef, a'.tmps.getD 9 undef, a'.tmps.getD 10 undef, a'.tmps.getD 11 undef, a'.tmps.getD 12 undef, a'.tmps.getD 13 undef, a'.tmps.getD 14 undef, a'.tmps.getD 15 undef, ⟨by have g := hv6; unfold At at g; rw [Array.getD_eq_getD_getElem?, g]; rfl, hL⟩, hI.eq.trans ?_⟩))
      rw [← hA]
      kernel_rfl
    have hI : Kept (6 :: List.range' 7 9) a0 a0 := Kept.refl _ _
    clear hA hJ hK' J
    refine with_pan (fun d _ _ _ _ h => by cases d <;> exact h) ?_
    intro hpan
    refine wp_region_rest (fun z => z.heap[w.heap.size]? = some (shaftB m a n cc)) (by kernel_rfl) ?_
    obtain ⟨wz, hwz⟩ : ∃ x, W.drew = x := ⟨_, rfl⟩
    change Rest _ _ _ _ _ _ _ (W.drew)
    rw [hwz]
    have hq : Below W.heap.size W wz := by rw [← hwz]; exact (Below.refl _ _).drew
    clear hwz
    have hS := heap_lft HX.out hq
    refine rest_take (k := 0) (d := 7) (v := shaftV m a n cc) hI rfl rfl (by kernel_rfl) (Nat.lt_of_le_of_lt (by decide) hsz) (by kernel_rfl) hpan (by kernel_rfl) hS (wanted_free rfl) (fun z hz => by have n2 := hI.at m2 (by kernel_rfl); have e2 := n2; have f2 := n2.eval; unfold At at e2; have k0 := heap_cell hz (j := 0) rfl; have k1 := heap_cell hz (j := 1) rfl; simp [go_sem, e2, k0, k1]) (fun a' hI' n7' hk => ?_)
    have n7 := n7'
    replace hI := hI'
    clear hk hI' n7'
    obtain ⟨act9, rfl⟩ : ∃ x, x = a' := ⟨_, rfl⟩
    refine rest_take (k := 2) (d := 9) (v := .pointer (some ⟨w.heap.size, 1, none⟩)) hI rfl rfl (by kernel_rfl) (Nat.lt_of_le_of_lt (by decide) hsz) (by kernel_rfl) hpan (by kernel_rfl) hS (wanted_free rfl) (fun z hz => by have n2 := hI.at m2 (by kernel_rfl); have e2 := n2; have f2 := n2.eval; unfold At at e2; simp [go_sem, e2]) (fun a' hI' n9' hk => ?_)
    replace n7 := hk _ _ n7 rfl
    have n9 := n9'
    replace hI := hI'
    clear hk hI' n9'
    obtain ⟨act9, rfl⟩ : ∃ x, x = a' := ⟨_, rfl⟩
    refine rest_take (k := 3) (d := 10) (v := .slice a n cc) hI rfl rfl (by kernel_rfl) (Nat.lt_of_le_of_lt (by decide) hsz) (by kernel_rfl) hpan (by kernel_rfl) hS (wanted_free rfl) (fun z hz => by have e9 := n9; have f9 := n9.eval; unfold At at e9; have k1 := heap_cell hz (j := 1) rfl; simp [go_sem, e9, k1]) (fun a' hI' n10' hk => ?_)
    replace n7 := hk _ _ n7 rfl
    replace n9 := hk _ _ n9 rfl
    have n10 := n10'
    replace hI := hI'
    clear hk hI' n10'
    obtain ⟨act9, rfl⟩ : ∃ x, x = a' := ⟨_, rfl⟩
    clear n9
    refine rest_take (k := 4) (d := 11) (v := .int .i64 n) hI rfl rfl (by kernel_rfl) (Nat.lt_of_le_of_lt (by decide) hsz) (by kernel_rfl) hpan (by kernel_rfl) hS (wanted_free rfl) (fun z hz => by have e10 := n10; have f10 := n10.eval; unfold At at e10; simp [go_sem, e10]) (fun a' hI' n11' hk => ?_)
    replace n7 := hk _ _ n7 rfl
    replace n10 := hk _ _ n10 rfl
    have n11 := n11'
    replace hI := hI'
    clear hk hI' n11'
    obtain ⟨act9, rfl⟩ : ∃ x, x = a' := ⟨_, rfl⟩
    clear n10
    refine rest_take (k := 5) (d := 12) (v := .bool (decide ((n : Int) < 4))) hI rfl rfl (by kernel_rfl) (Nat.lt_of_le_of_lt (by decide) hsz) (by kernel_rfl) hpan (by kernel_rfl) hS (wanted_free rfl) (fun z hz => by have e11 := n11; have f11 := n11.eval; unfold At at e11; simp [go_sem, e11]) (fun a' hI' n12' hk => ?_)
    replace n7 := hk _ _ n7 rfl
    replace n11 := hk _ _ n11 rfl
    have n12 := n12'
    replace hI := hI'
    clear hk hI' n12'
    obtain ⟨act9, rfl⟩ : ∃ x, x = a' := ⟨_, rfl⟩
    clear n11
    refine rest_only (k := 1) (by kernel_rfl) (op_call (k := 1) (d := 8) (R := fun v w' => v = .int .i64 (Pure.err (Pure.shaft m n F) 102) ∧ Below wz.heap.size wz w') hI rfl rfl (by kernel_rfl) (Nat.lt_of_le_of_lt (by decide) hsz) (wanted_free rfl) ((sound_any m a n cc F (by omega) _ (HP.out.below hq)).mono fun e w' g => ⟨_, g.1, rfl, g.2⟩) (by have e7 := n7; have f7 := n7.eval; unfold At at e7; simp [go_sem, e7]) ?_)
    intro v w' a' hR hI' n8' hk
    obtain ⟨rfl, hb⟩ := hR
    refine ⟨heap_lft hS hb, ?_⟩
    replace n7 := hk _ _ n7 rfl
    replace n12 := hk _ _ n12 rfl
    have n8 := n8'
    replace hI := hI'
    clear hk hI' n8'
    obtain ⟨act9, rfl⟩ : ∃ x, x = a' := ⟨_, rfl⟩
    replace hS := heap_lft hS hb
    replace hq := below_thn hq hb
    clear hb
    obtain ⟨u1, rfl⟩ : ∃ x, x = w' := ⟨_, rfl⟩
    clear n7
    refine rest_only (k := 6) (by kernel_rfl) (op_call (k := 6) (d := 13) (R := fun v w' => v = .int .i64 (Pure.err (decide ((n : Int) < 4)) 9) ∧ u1 = w') hI rfl rfl (by kernel_rfl) (Nat.lt_of_le_of_lt (by decide) hsz) (wanted_free rfl) ((unless_any _ _ _).mono fun e w' g => ⟨_, g.1, rfl, g.2⟩) (by have e12 := n12; have f12 := n12.eval; unfold At at e12; simp [go_sem, e12]) ?_)
    intro v w' a' hR hI' n13' hk
    obtain ⟨rfl, rfl⟩ := hR
    refine ⟨hS, ?_⟩
    replace n12 := hk _ _ n12 rfl
    replace n8 := hk _ _ n8 rfl
    have n13 := n13'
    replace hI := hI'
    clear hk hI' n13'
    obtain ⟨act9, rfl⟩ : ∃ x, x = a' := ⟨_, rfl⟩
    clear n12
    have hn1 := below_new u1 (.cells #[.int .i64 (Pure.err (Pure.shaft m n F) 102), .int .i64 (Pure.err (decide ((n : Int) < 4)) 9)] 30)
    have hq1 := below_thn hq hn1
    have hs1 := heap_lft hS hn1
    have hc0 := cells_top u1 #[.int .i64 (Pure.err (Pure.shaft m n F) 102), .int .i64 (Pure.err (decide ((n : Int) < 4)) 9)] 30 rfl 0
    have hc1 := cells_top u1 #[.int .i64 (Pure.err (Pure.shaft m n F) 102), .int .i64 (Pure.err (decide ((n : Int) < 4)) 9)] 30 rfl 1
    obtain ⟨u2, hu2⟩ : ∃ x, u1.alloc (.cells #[.int .i64 (Pure.err (Pure.shaft m n F) 102), .int .i64 (Pure.err (decide ((n : Int) < 4)) 9)] 30) = x := ⟨_, rfl⟩
    rw [hu2] at hn1 hq1 hs1 hc0 hc1
    refine rest_only (k := 7) (by kernel_rfl) (op_value (k := 7) (d := 14) (v := .slice (some ⟨u1.heap.size, 0, none⟩) 2 2) hI rfl rfl (by kernel_rfl) (Nat.lt_of_le_of_lt (by decide) hsz) (wanted_free rfl) (by have e8 := n8; have f8 := n8.eval; unfold At at e8; have e13 := n13; have f13 := n13.eval; unfold At at e13; simp [go_sem, e8, e13]; try rfl) (fun a' hI' n14' hk => ⟨by rw [hu2]; exact hs1, ?_⟩))
    replace n8 := hk _ _ n8 rfl
    replace n13 := hk _ _ n13 rfl
    have n14 := n14'
    replace hI := hI'
    clear hk hI' n14'
    obtain ⟨act9, rfl⟩ : ∃ x, x = a' := ⟨_, rfl⟩
    rw [hu2]
    clear hu2 hS hq hn1
    replace hS := hs1
    replace hq := hq1
    clear hs1 hq1
    clear n8
    clear n13
    refine rest_only (k := 8) (by kernel_rfl) (op_call (k := 8) (d := 15) (R := fun v w' => v = .int .i64 q ∧ Below u2.heap.size u2 w') hI rfl rfl (by kernel_rfl) (Nat.lt_of_le_of_lt (by decide) hsz) (wanted_free rfl) ((firstError2 _ _ _ 2 _ hc0 hc1).mono fun e w' g => ⟨_, g.1, congrArg (Value.int .i64) HQ.out, g.2⟩) (by have e14 := n14; have f14 := n14.eval; unfold At at e14; simp [go_sem, e14]) ?_)
    intro v w' a' hR hI' n15' hk
    obtain ⟨rfl, hb⟩ := hR
    refine ⟨heap_lft hS hb, ?_⟩
    replace n14 := hk _ _ n14 rfl
    have n15 := n15'
    replace hI := hI'
    clear hk hI' n15'
    obtain ⟨act9, rfl⟩ : ∃ x, x = a' := ⟨_, rfl⟩
    replace hS := heap_lft hS hb
    replace hq := below_thn hq hb
    clear hb
    refine rest_take (k := 9) (d := 6) (v := .int .i64 q) hI rfl rfl (by kernel_rfl) (Nat.lt_of_le_of_lt (by decide) hsz) (by kernel_rfl) hpan (by kernel_rfl) hS (wanted_free rfl) (fun z hz => by have e15 := n15; have f15 := n15.eval; unfold At at e15; simp [go_sem, e15]) (fun a' hI' n6' hk => ?_)
    replace n14 := hk _ _ n14 rfl
    replace n15 := hk _ _ n15 rfl
    have n6 := n6'
    replace hI := hI'
    clear hk hI' n6'
    obtain ⟨act9, rfl⟩ : ∃ x, x = a' := ⟨_, rfl⟩
    refine rest_done (by kernel_rfl) ?_
    exact hfin _ _ hI n6 hq
  case rest =>
    obtain ⟨W1, rfl⟩ : ∃ x, x = wc := ⟨_, rfl⟩
    obtain ⟨rfl, hb⟩ := hcut
    have HX1 := Lib.hid (heap_lft HX.out hb)
    have HI1 := Lib.hid (heap_lft HI.out hb)
    have HY1 := Lib.hid (heap_lft HY.out hb)
    have HB1 := Lib.hid (below_thn HB.out hb)
    have HP1 := Lib.hid (HP.out.below hb)
    have HS1 : Hid (w.heap.size + 3 ≤ W1.heap.size) := Lib.hid (by have := hb.size; have := HSZ.out; omega)
    clear hb
    by_cases h0 : q = 0
    rotate_left
    · have y0 := heap_cell HY1.out (j := 0) rfl
      have y1 := heap_cell HY1.out (j := 1) rfl
      have f0 := heap_frozen HY1.out 0
      have f1 := heap_frozen HY1.out 1
      obtain rfl : q = code := by rw [← HCD.out, if_neg h0]
      have hne : (q != 0) = true := by simp [h0]
      have HNE := Lib.hid h0
      clear h0
      go_wp2_with fail
      refine bodyPost_ret (v := .tuple #[shaftV 0 none 0 0, .int .i64 q]) (by simp [results, Try.results8, go_sem, y0, y1]; try rfl) rfl ⟨0, none, 0, 0, rfl, by rw [if_neg HNE.out], by rw [if_neg HNE.out], own_nil _ _ _ _ _, ?_⟩
      repeat (first | with_reducible exact HB1.out | with_reducible refine Below.setCell ?_ (by first | (simp; done) | (dsimp only; omega)) _)
    · subst h0
      have HCE : Hid (Pure.err (Pure.shaft m (n + 1) (Pure.appF F n c u p)) 2 = code) := Lib.hid (by rw [← HCD.out, if_pos rfl])
      have HN4 : Hid (n < 4) := Lib.hid (by
        have h := HQ.out
        cases hv : Pure.shaft m n F with
        | false => rw [hv] at h; cases h
        | true =>
          rw [hv] at h
          have h2 := Pure.err_zero (by decide) h
          have := of_decide_eq_true h2
          omega)
      go_upto_region 4 with fail
      go_cut [] from 20 to 26 (fun wx => ∃ a2 c2, wx.heap[w.heap.size]? = some (shaftB m a2 (n + 1) c2) ∧ wx.heap[w.heap.size + 1 + 1]? = some (shaftB 0 none 0 0) ∧ OwnNums wx W1.heap.size 27 3 a2 (n + 1) c2 (Pure.appF F n c u p) ∧ Below w.heap.size w wx)
      case first =>
        rename_i J K' hJ hK'
        generalize hA : (Act.mk _ _ : Act) = a0
        have m2 : At a0 2 (.pointer (some ⟨w.heap.size, 0, none⟩)) := by rw [← hA]; rfl
        have m3 : At a0 3 (.pointer (some ⟨w.heap.size + 1, 0, none⟩)) := by rw [← hA]; rfl
        have hsz : 26 < a0.tmps.size := by rw [← hA]; exact of_decide_eq_true (by kernel_rfl)
        have hfin : ∀ a' w', Kept (List.range' 20 7) a0 a' → (∃ a2 c2, w'.heap[w.heap.size]? = some (shaftB m a2 (n + 1) c2) ∧ w'.heap[w.heap.size + 1 + 1]? = some (shaftB 0 none 0 0) ∧ OwnNums w' W1.heap.size 27 3 a2 (n + 1) c2 (Pure.appF F n c u p) ∧ Below w.heap.size w w') → K' a' w' := by
          intro a' w' hI hL
          refine hK' _ _ (Met.intro (hJ _ _ ⟨a'.tmps.getD 20 undef, a'.tmps.getD 21 undef, a'.tmps.getD 22 undef, a'.tmps.getD 23 undef, a'.tmps.getD 24 undef, a'.tmps.getD 25 undef, a'.tmps.getD 26 undef, hL, hI.eq.trans ?_⟩))
          rw [← hA]
          kernel_rfl
        have hI : Kept (List.range' 20 7) a0 a0 := Kept.refl _ _
        clear hA hJ hK' J
        refine with_pan (fun d _ _ _ _ h => by cases d <;> exact h) ?_
        intro hpan
        refine wp_region_restF (fun j => j == 7) (fun z => z.heap[w.heap.size]? = some (shaftB m a n cc) ∧ z.heap[w.heap.size + 1]? = some (stampB c u p)) (by kernel_rfl) ?_
        obtain ⟨wz, hwz⟩ : ∃ x, W1.drew = x := ⟨_, rfl⟩
        change RestF _ _ _ _ _ _ _ _ (W1.drew)
        rw [hwz]
        have hq : Below W1.heap.size W1 wz := by rw [← hwz]; exact (Below.refl _ _).drew
        clear hwz
        have hS := And.intro (heap_lft HX1.out hq) (heap_lft HI1.out hq)
        refine restF_take (k := 0) (d := 20) (v := .pointer (some ⟨w.heap.size, 1, none⟩)) hI rfl rfl (by kernel_rfl) (Nat.lt_of_le_of_lt (by decide) hsz) (by kernel_rfl) hpan (by kernel_rfl) hS (wanted_free rfl) (fun z hz => by have n2 := hI.at m2 (by kernel_rfl); have e2 := n2; have f2 := n2.eval; unfold At at e2; simp [go_sem, e2]) (fun a' hI' n20' hk => ?_)
        have n20 := n20'
        replace hI := hI'
        clear hk hI' n20'
        obtain ⟨act9, rfl⟩ : ∃ x, x = a' := ⟨_, rfl⟩
        refine restF_take (k := 1) (d := 21) (v := .slice a n cc) hI rfl rfl (by kernel_rfl) (Nat.lt_of_le_of_lt (by decide) hsz) (by kernel_rfl) hpan (by kernel_rfl) hS (wanted_free rfl) (fun z hz => by have e20 := n20; have f20 := n20.eval; unfold At at e20; have k0 := heap_cell hz.1 (j := 1) rfl; simp [go_sem, e20, k0]) (fun a' hI' n21' hk => ?_)
        replace n20 := hk _ _ n20 rfl
        have n21 := n21'
        replace hI := hI'
        clear hk hI' n21'
        obtain ⟨act9, rfl⟩ : ∃ x, x = a' := ⟨_, rfl⟩
        clear n20
        refine restF_take (k := 3) (d := 23) (v := stampV c u p) hI rfl rfl (by kernel_rfl) (Nat.lt_of_le_of_lt (by decide) hsz) (by kernel_rfl) hpan (by kernel_rfl) hS (wanted_free rfl) (fun z hz => by have n3 := hI.at m3 (by kernel_rfl); have e3 := n3; have f3 := n3.eval; unfold At at e3; have k0 := heap_cell hz.2 (j := 0) rfl; have k1 := heap_cell hz.2 (j := 1) rfl; have k2 := heap_cell hz.2 (j := 2) rfl; simp [go_sem, e3, k0, k1, k2]) (fun a' hI' n23' hk => ?_)
        replace n21 := hk _ _ n21 rfl
        have n23 := n23'
        replace hI := hI'
        clear hk hI' n23'
        obtain ⟨act9, rfl⟩ : ∃ x, x = a' := ⟨_, rfl⟩
        have hszq : W1.heap.size ≤ wz.heap.size := hq.size
        have hszu : W1.heap.size ≤ (wz.alloc (stampB c u p)).heap.size := by simp; omega
        refine restF_split [2, 4] (by kernel_rfl) rfl (fun i9 hi9 => ?_)
        have hi9' : i9 = 2 ∨ i9 = 4 := by simpa using hi9
        clear hi9
        rcases hi9' with rfl | rfl
        · refine _root_.id (op_call (k := 2) (d := 22) (R := fun v w' => ∃ a1 c1, v = .slice a1 n c1 ∧ OwnNums w' wz.heap.size 27 3 a1 n c1 F ∧ Below wz.heap.size wz w') hI rfl rfl (by kernel_rfl) (Nat.lt_of_le_of_lt (by decide) hsz) (wanted_free rfl) ((cloneStamp_any a n cc F (by omega) HZ.out _ (HP1.out.below hq)).mono fun e w' g => by obtain ⟨a1, c1, h1, h2, h3⟩ := g; exact ⟨_, h1, a1, c1, rfl, h2, h3⟩) (by have e21 := n21; have f21 := n21.eval; unfold At at e21; simp [go_sem, e21]) ?_)
          intro v w' a' hR hI' n22' hk
          obtain ⟨a1, c1, rfl, ho, hb⟩ := hR
          refine ⟨fun _ => (And.intro (heap_lft hS.1 hb) (heap_lft hS.2 hb)), ?_⟩
          replace n21 := hk _ _ n21 rfl
          replace n23 := hk _ _ n23 rfl
          have n22 := n22'
          replace hI := hI'
          clear hk hI' n22'
          obtain ⟨act9, rfl⟩ : ∃ x, x = a' := ⟨_, rfl⟩
          replace hS := And.intro (heap_lft hS.1 hb) (heap_lft hS.2 hb)
          replace hq := below_thn hq hb
          obtain ⟨u1, rfl⟩ : ∃ x, x = w' := ⟨_, rfl⟩
          clear n21
          have hszB := hb.size
          clear hb
          have hn1 := below_new u1 (stampB c u p)
          have hv1 := heap_top u1 (stampB c u p) rfl
          have hq1 := below_thn hq hn1
          have hs1 := And.intro (heap_lft hS.1 hn1) (heap_lft hS.2 hn1)
          obtain ⟨u2, hwe⟩ : ∃ x, u1.alloc (stampB c u p) = x := ⟨_, rfl⟩
          rw [hwe] at hn1 hv1 hq1 hs1
          refine restF_only (k := 4) (by kernel_rfl) (op_value (k := 4) (d := 24) (v := .slice (some ⟨u1.heap.size, 0, none⟩) 1 1) hI rfl rfl (by kernel_rfl) (Nat.lt_of_le_of_lt (by decide) hsz) (wanted_free rfl) (by have e23 := n23; have f23 := n23.eval; unfold At at e23; simp [go_sem, e23]; try rfl) (fun a' hI' n24' hk => ⟨fun _ => (by rw [hwe]; exact hs1), ?_⟩))
          replace n23 := hk _ _ n23 rfl
          replace n22 := hk _ _ n22 rfl
          have n24 := n24'
          replace hI := hI'
          clear hk hI' n24'
          obtain ⟨act9, rfl⟩ : ∃ x, x = a' := ⟨_, rfl⟩
          rw [hwe]
          replace hS := hs1
          replace hq := hq1
          clear hwe hs1 hq1
          clear n23
          replace ho := OwnNums.base (ho.below hn1) (show W1.heap.size ≤ wz.heap.size from hszq)
          clear hn1
          obtain ⟨i0, hi0, hz0, hz1, hz2⟩ := infoStamp
          obtain ⟨a2, c2, Z, hr, hol, _, hbe, _⟩ := app_own u2 W1.heap.size 27 22 22 3 24 i0 _ Try.underlying22 hi0 hz0 hz1 hz2 rfl (by decide) (by decide) ho (some ⟨u1.heap.size, 0, none⟩) 1 1 (rowX c u p) (nums_stamp hv1) (fun h => by cases h) (by omega) (by omega) hq.size
          have hs1 := HS1.out
          have hsZ : Z.heap[w.heap.size]? = some (shaftB m a n cc) ∧ Z.heap[w.heap.size + 1]? = some (stampB c u p) := ⟨(hbe.block _ (by omega)).trans hS.1, (hbe.block _ (by omega)).trans hS.2⟩
          have hyZ : Z.heap[w.heap.size + 1 + 1]? = some (shaftB 0 none 0 0) := (hbe.block _ (by omega)).trans (heap_lft HY1.out hq)
          have hbZ : Below w.heap.size w Z := (below_thn HB1.out hq).trans (hbe.mono (by omega))
          refine restF_only (k := 5) (by kernel_rfl) (op_value (k := 5) (d := 25) (v := .slice a2 (n + 1) c2) hI rfl rfl (by kernel_rfl) (Nat.lt_of_le_of_lt (by decide) hsz) (wanted_free rfl) (exec_append (.tmp 22) (.tmp 24) 22 22 rfl n22.eval n24.eval (hr)) (fun a' hI' n25' hk => ⟨fun _ => hsZ, ?_⟩))
          replace n22 := hk _ _ n22 rfl
          replace n24 := hk _ _ n24 rfl
          have n25 := n25'
          replace hI := hI'
          clear hk hI' n25'
          obtain ⟨act9, rfl⟩ : ∃ x, x = a' := ⟨_, rfl⟩
          clear n22
          clear n24
          clear hS
          replace hS := hsZ
          refine restF_take (k := 6) (d := 26) (v := .pointer (some ⟨w.heap.size, 1, none⟩)) hI rfl rfl (by kernel_rfl) (Nat.lt_of_le_of_lt (by decide) hsz) (by kernel_rfl) hpan (by kernel_rfl) hS (wanted_free rfl) (fun z hz => by have n2 := hI.at m2 (by kernel_rfl); have e2 := n2; have f2 := n2.eval; unfold At at e2; simp [go_sem, e2]) (fun a' hI' n26' hk => ?_)
          replace n25 := hk _ _ n25 rfl
          have n26 := n26'
          replace hI := hI'
          clear hk hI' n26'
          obtain ⟨act9, rfl⟩ : ∃ x, x = a' := ⟨_, rfl⟩
          obtain ⟨Y, hY⟩ : ∃ Y, Z.setCell ⟨w.heap.size, 1, none⟩ (.slice a2 (n + 1) c2) = Y := ⟨_, rfl⟩
          refine restF_only (k := 7) (by kernel_rfl) (op_store (k := 7) rfl rfl (wanted_free rfl) (by have e25 := n25; have f25 := n25.eval; unfold At at e25; have e26 := n26; have f26 := n26.eval; unfold At at e26; have k2 := heap_cell hS.1 (j := 1) rfl; have f2 := heap_frozen hS.1 1; simp [go_sem, e25, e26, k2, f2]; try rfl) ⟨(fun hf => by cases hf), ?_⟩)
          refine restF_done (by kernel_rfl) ?_
          rw [hY]
          refine hfin _ _ hI ⟨a2, c2, ?_, ?_, ?_, ?_⟩
          · rw [← hY]; exact heap_set hS.1 1 _
          · rw [← hY]; exact (Below.heap_setCell _ _ _ _ (by dsimp only; omega)).trans hyZ
          · rw [← hY]; exact hol.set (by dsimp only; omega) _
          · rw [← hY]; exact hbZ.setCell (Nat.le_refl _) _
        · have hn1 := below_new wz (stampB c u p)
          have hv1 := heap_top wz (stampB c u p) rfl
          have hq1 := below_thn hq hn1
          have hs1 := And.intro (heap_lft hS.1 hn1) (heap_lft hS.2 hn1)
          obtain ⟨u1, hwe⟩ : ∃ x, wz.alloc (stampB c u p) = x := ⟨_, rfl⟩
          rw [hwe] at hn1 hv1 hq1 hs1
          refine _root_.id (op_value (k := 4) (d := 24) (v := .slice (some ⟨wz.heap.size, 0, none⟩) 1 1) hI rfl rfl (by kernel_rfl) (Nat.lt_of_le_of_lt (by decide) hsz) (wanted_free rfl) (by have e23 := n23; have f23 := n23.eval; unfold At at e23; simp [go_sem, e23]; try rfl) (fun a' hI' n24' hk => ⟨fun _ => (by rw [hwe]; exact hs1), ?_⟩))
          replace n21 := hk _ _ n21 rfl
          replace n23 := hk _ _ n23 rfl
          have n24 := n24'
          replace hI := hI'
          clear hk hI' n24'
          obtain ⟨act9, rfl⟩ : ∃ x, x = a' := ⟨_, rfl⟩
          rw [hwe]
          replace hS := hs1
          replace hq := hq1
          clear hwe hs1 hq1
          clear n23
          have hszv : W1.heap.size ≤ u1.heap.size := hq.size
          clear hn1
          refine restF_only (k := 2) (by kernel_rfl) (op_call (k := 2) (d := 22) (R := fun v w' => ∃ a1 c1, v = .slice a1 n c1 ∧ OwnNums w' u1.heap.size 27 3 a1 n c1 F ∧ Below u1.heap.size u1 w') hI rfl rfl (by kernel_rfl) (Nat.lt_of_le_of_lt (by decide) hsz) (wanted_free rfl) ((cloneStamp_any a n cc F (by omega) HZ.out _ (HP1.out.below hq)).mono fun e w' g => by obtain ⟨a1, c1, h1, h2, h3⟩ := g; exact ⟨_, h1, a1, c1, rfl, h2, h3⟩) (by have e21 := n21; have f21 := n21.eval; unfold At at e21; simp [go_sem, e21]) ?_)
          intro v w' a' hR hI' n22' hk
          obtain ⟨a1, c1, rfl, ho, hb⟩ := hR
          refine ⟨fun _ => (And.intro (heap_lft hS.1 hb) (heap_lft hS.2 hb)), ?_⟩
          replace n21 := hk _ _ n21 rfl
          replace n24 := hk _ _ n24 rfl
          have n22 := n22'
          replace hI := hI'
          clear hk hI' n22'
          obtain ⟨act9, rfl⟩ : ∃ x, x = a' := ⟨_, rfl⟩
          replace hS := And.intro (heap_lft hS.1 hb) (heap_lft hS.2 hb)
          replace hq := below_thn hq hb
          obtain ⟨u2, rfl⟩ : ∃ x, x = w' := ⟨_, rfl⟩
          clear n21
          replace hv1 := heap_lft hv1 hb
          clear hb
          replace ho := OwnNums.base ho (show W1.heap.size ≤ u1.heap.size from hszv)
          obtain ⟨i0, hi0, hz0, hz1, hz2⟩ := infoStamp
          obtain ⟨a2, c2, Z, hr, hol, _, hbe, _⟩ := app_own u2 W1.heap.size 27 22 22 3 24 i0 _ Try.underlying22 hi0 hz0 hz1 hz2 rfl (by decide) (by decide) ho (some ⟨wz.heap.size, 0, none⟩) 1 1 (rowX c u p) (nums_stamp hv1) (fun h => by cases h) (by omega) (by omega) hq.size
          have hs1 := HS1.out
          have hsZ : Z.heap[w.heap.size]? = some (shaftB m a n cc) ∧ Z.heap[w.heap.size + 1]? = some (stampB c u p) := ⟨(hbe.block _ (by omega)).trans hS.1, (hbe.block _ (by omega)).trans hS.2⟩
          have hyZ : Z.heap[w.heap.size + 1 + 1]? = some (shaftB 0 none 0 0) := (hbe.block _ (by omega)).trans (heap_lft HY1.out hq)
          have hbZ : Below w.heap.size w Z := (below_thn HB1.out hq).trans (hbe.mono (by omega))
          refine restF_only (k := 5) (by kernel_rfl) (op_value (k := 5) (d := 25) (v := .slice a2 (n + 1) c2) hI rfl rfl (by kernel_rfl) (Nat.lt_of_le_of_lt (by decide) hsz) (wanted_free rfl) (exec_append (.tmp 22) (.tmp 24) 22 22 rfl n22.eval n24.eval (hr)) (fun a' hI' n25' hk => ⟨fun _ => hsZ, ?_⟩))
          replace n24 := hk _ _ n24 rfl
          replace n22 := hk _ _ n22 rfl
          have n25 := n25'
          replace hI := hI'
          clear hk hI' n25'
          obtain ⟨act9, rfl⟩ : ∃ x, x = a' := ⟨_, rfl⟩
          clear n22
          clear n24
          clear hS
          replace hS := hsZ
          refine restF_take (k := 6) (d := 26) (v := .pointer (some ⟨w.heap.size, 1, none⟩)) hI rfl rfl (by kernel_rfl) (Nat.lt_of_le_of_lt (by decide) hsz) (by kernel_rfl) hpan (by kernel_rfl) hS (wanted_free rfl) (fun z hz => by have n2 := hI.at m2 (by kernel_rfl); have e2 := n2; have f2 := n2.eval; unfold At at e2; simp [go_sem, e2]) (fun a' hI' n26' hk => ?_)
          replace n25 := hk _ _ n25 rfl
          have n26 := n26'
          replace hI := hI'
          clear hk hI' n26'
          obtain ⟨act9, rfl⟩ : ∃ x, x = a' := ⟨_, rfl⟩
          obtain ⟨Y, hY⟩ : ∃ Y, Z.setCell ⟨w.heap.size, 1, none⟩ (.slice a2 (n + 1) c2) = Y := ⟨_, rfl⟩
          refine restF_only (k := 7) (by kernel_rfl) (op_store (k := 7) rfl rfl (wanted_free rfl) (by have e25 := n25; have f25 := n25.eval; unfold At at e25; have e26 := n26; have f26 := n26.eval; unfold At at e26; have k2 := heap_cell hS.1 (j := 1) rfl; have f2 := heap_frozen hS.1 1; simp [go_sem, e25, e26, k2, f2]; try rfl) ⟨(fun hf => by cases hf), ?_⟩)
          refine restF_done (by kernel_rfl) ?_
          rw [hY]
          refine hfin _ _ hI ⟨a2, c2, ?_, ?_, ?_, ?_⟩
          · rw [← hY]; exact heap_set hS.1 1 _
          · rw [← hY]; exact (Below.heap_setCell _ _ _ _ (by dsimp only; omega)).trans hyZ
          · rw [← hY]; exact hol.set (by dsimp only; omega) _
          · rw [← hY]; exact hbZ.setCell (Nat.le_refl _) _
      case rest =>
        obtain ⟨M, rfl⟩ : ∃ x, x = wc := ⟨_, rfl⟩
        obtain ⟨a2, c2, h1, h2, h3, h4⟩ := hcut
        have HXM := Lib.hid h1
        have HYM := Lib.hid h2
        have HOM := Lib.hid h3
        have HBM := Lib.hid h4
        clear h1 h2 h3 h4
        have x0 := heap_cell HXM.out (j := 0) rfl
        have x1 := heap_cell HXM.out (j := 1) rfl
        go_wp2_with fail
        refine (sound_any m a2 (n + 1) c2 (Pure.appF F n c u p) (by omega) _ HOM.out.nums).mono ?_
        rintro e2 N ⟨rfl, hb⟩
        have HXN := Lib.hid (heap_lft HXM.out hb)
        have HYN := Lib.hid (heap_lft HYM.out hb)
        have HBN := Lib.hid (below_thn HBM.out hb)
        have HON := Lib.hid (HOM.out.below hb)
        clear hb x0 x1
        obtain ⟨r, hr⟩ : ∃ r, Pure.shaft m (n + 1) (Pure.appF F n c u p) = r := ⟨_, rfl⟩
        rw [hr]
        have HR := Lib.hid hr
        clear hr
        have x0 := heap_cell HXN.out (j := 0) rfl
        have x1 := heap_cell HXN.out (j := 1) rfl
        have y0 := heap_cell HYN.out (j := 0) rfl
        have y1 := heap_cell HYN.out (j := 1) rfl
        have f0 := heap_frozen HYN.out 0
        have f1 := heap_frozen HYN.out 1
        have hs1 := HS1.out
        cases r
        · have e1 : (Pure.err false 102 != 0) = true := rfl
          obtain rfl : code = 2 := by rw [← HCE.out, HR.out]; rfl
          go_wp2_with fail
          refine bodyPost_ret (v := .tuple #[shaftV 0 none 0 0, .int .i64 2]) (by simp [results, Try.results8, go_sem, y0, y1]; try rfl) rfl ⟨0, none, 0, 0, rfl, rfl, rfl, own_nil _ _ _ _ _, ?_⟩
          repeat (first | with_reducible exact HBN.out | with_reducible refine Below.setCell ?_ (by first | (simp; done) | (dsimp only; omega)) _)
        · have e1 : (Pure.err true 102 != 0) = false := rfl
          obtain rfl : code = 0 := by rw [← HCE.out, HR.out]; rfl
          go_wp2_with fail
          refine bodyPost_ret (v := .tuple #[shaftV m a2 (n + 1) c2, .int .i64 0]) (by simp [results, Try.results8, go_sem, y0, y1]; try rfl) rfl ⟨m, a2, n + 1, c2, rfl, rfl, rfl, ?_, ?_⟩
          · refine OwnNums.base (base := W1.heap.size) ?_ (by omega)
            repeat (first | with_reducible exact HON.out | with_reducible refine OwnNums.set ?_ (by dsimp only; omega) _)
          · repeat (first | with_reducible exact HBN.out | with_reducible refine Below.setCell ?_ (by first | (simp; done) | (dsimp only; omega)) _)

set_option maxHeartbeats 16000000 in
set_option maxRecDepth 100000 in
/-- **Add**, the specification's. -/
theorem rAdd_any (m : Int) (a : Option Addr) (n cc : Nat) (F : Nat → Int) (c u p : Int) (hn : n ≤ 20) (hnil : a = none → n = 0) (w : World) (hF : NumsAt w a (n * 3) F) :
    Calls Try.prog 9 #[shaftV m a n cc, stampV c u p] w (AddOut m n (Pure.appF F n c u p) (Pure.addC m n F c u p) w) := by
  obtain ⟨W, hW⟩ : ∃ W, ((w.alloc (shaftB m a n cc)).alloc (stampB c u p)).alloc (shaftB 0 none 0 0) = W := ⟨_, rfl⟩
  have HB : Hid (Below w.heap.size w W) := Lib.hid (by rw [← hW]; exact ((below_new _ _).alloc (by simp) _).alloc (by simp; omega) _)
  have HX : Hid (W.heap[w.heap.size]? = some (shaftB m a n cc)) := Lib.hid (by rw [← hW]; exact heap_up (heap_up (heap_top _ _ rfl) _) _)
  have HI : Hid (W.heap[w.heap.size + 1]? = some (stampB c u p)) := Lib.hid (by rw [← hW]; exact heap_up (heap_top _ _ (by simp)) _)
  have HY : Hid (W.heap[w.heap.size + 1 + 1]? = some (shaftB 0 none 0 0)) := Lib.hid (by rw [← hW]; exact heap_top _ _ (by simp))
  have HSZ : Hid (W.heap.size = w.heap.size + 3) := Lib.hid (by rw [← hW]; simp)
  have HP := Lib.hid (hF.below HB.out)
  have HZ := Lib.hid hnil
  clear hF hnil
  obtain ⟨q, hq⟩ : ∃ q, Pure.addC m n F c u p = q := ⟨_, rfl⟩
  rw [hq]
  have HQ := Lib.hid hq
  clear hq
  have x0 := heap_cell HX.out (j := 0) rfl
  have x1 := heap_cell HX.out (j := 1) rfl
  go_enter Try.func9, Try.ntmps9
  go_upto_region 1 with fail
  try rw [hW]
  clear hW
  go_wp2_with fail
  refine (rShaft_any m a n cc F (by omega) _ HP.out).mono ?_
  rintro e W1 ⟨rfl, hb⟩
  have HX1 := Lib.hid (heap_lft HX.out hb)
  have HI1 := Lib.hid (heap_lft HI.out hb)
  have HY1 := Lib.hid (heap_lft HY.out hb)
  have HB1 := Lib.hid (below_thn HB.out hb)
  have HP1 := Lib.hid (HP.out.below hb)
  have HS1 : Hid (w.heap.size + 3 ≤ W1.heap.size) := Lib.hid (by have := hb.size; have := HSZ.out; omega)
  clear hb x0 x1
  have x0 := heap_cell HX1.out (j := 0) rfl
  have x1 := heap_cell HX1.out (j := 1) rfl
  have y0 := heap_cell HY1.out (j := 0) rfl
  have y1 := heap_cell HY1.out (j := 1) rfl
  have f0 := heap_frozen HY1.out 0
  have f1 := heap_frozen HY1.out 1
  obtain ⟨v1, hv1⟩ : ∃ z, Pure.shaft m n F = z := ⟨_, rfl⟩
  rw [hv1]
  have HV := Lib.hid hv1
  clear hv1
  cases v1
  · have hq0 : q = 102 := by rw [← HQ.out]; simp [Pure.addC, Pure.fullC, HV.out, Pure.err]
    subst hq0
    go_wp2_with fail
    refine bodyPost_ret (v := .tuple #[shaftV 0 none 0 0, .int .i64 102]) (by simp [results, Try.results9, go_sem, y0, y1]; try rfl) rfl ⟨0, none, 0, 0, rfl, rfl, rfl, own_nil _ _ _ _ _, ?_⟩
    repeat (first | with_reducible exact HB1.out | with_reducible refine Below.setCell ?_ (by first | (simp; done) | (dsimp only; omega)) _)
  · have HN4 : Hid (n ≤ 4) := Lib.hid (by have := (Pure.shaft_iff.1 HV.out).2.1; omega)
    by_cases h4 : n = 4
    · have h4' : (n : Int) = 4 := by omega
      have hq0 : q = 9 := by rw [← HQ.out]; simp only [Pure.addC, Pure.fullC, HV.out, show decide ((n : Int) < 4) = false from decide_eq_false (by omega)]; rfl
      subst hq0
      clear h4
      go_wp2_with fail
      refine bodyPost_ret (v := .tuple #[shaftV 0 none 0 0, .int .i64 9]) (by simp [results, Try.results9, go_sem, y0, y1]; try rfl) rfl ⟨0, none, 0, 0, rfl, rfl, rfl, own_nil _ _ _ _ _, ?_⟩
      repeat (first | with_reducible exact HB1.out | with_reducible refine Below.setCell ?_ (by first | (simp; done) | (dsimp only; omega)) _)
    · have h4' : ¬ (n : Int) = 4 := by omega
      have HQ2 : Hid (Pure.err (Pure.shaft m (n + 1) (Pure.appF F n c u p)) 2 = q) := Lib.hid (by rw [← HQ.out]; simp only [Pure.addC, Pure.fullC, HV.out, show decide ((n : Int) < 4) = true from decide_eq_true (by have := HN4.out; omega)]; rfl)
      clear h4
      go_upto_region 5 with fail
      clear y0 y1 f0 f1
      go_wp2_with fail
      refine (twin_any m a n cc F (by omega) HZ.out _ HP1.out).mono ?_
      rintro e W2 ⟨a1, c1, rfl, ho, hb⟩
      have HI2 := Lib.hid (heap_lft HI1.out hb)
      have HY2 := Lib.hid (heap_lft HY1.out hb)
      have HB2 := Lib.hid (below_thn HB1.out hb)
      have HO2 := Lib.hid ho
      have HS2 : Hid (W1.heap.size ≤ W2.heap.size) := Lib.hid hb.size
      clear ho hb x0 x1 h4'
      go_upto_region 6 with fail
      obtain ⟨V, hV⟩ : ∃ x, W2.alloc (shaftB m a1 n c1) = x := ⟨_, rfl⟩
      have hb : Below W2.heap.size W2 V := by rw [← hV]; exact below_new _ _
      have HT : Hid (V.heap[W2.heap.size]? = some (shaftB m a1 n c1)) := Lib.hid (by rw [← hV]; exact heap_top _ _ rfl)
      have HIV := Lib.hid (heap_lft HI2.out hb)
      have HYV := Lib.hid (heap_lft HY2.out hb)
      have HBV := Lib.hid (below_thn HB2.out hb)
      have HOV := Lib.hid (HO2.out.below hb)
      have HSV : Hid (W2.heap.size < V.heap.size) := Lib.hid (by rw [← hV]; simp)
      try rw [hV]
      clear hV hb
      obtain ⟨Y, hY⟩ : ∃ Y, V.alloc (stampB c u p) = Y := ⟨_, rfl⟩
      have hby : Below V.heap.size V Y := by rw [← hY]; exact below_new _ _
      have hv1 : Y.heap[V.heap.size]? = some (stampB c u p) := by rw [← hY]; exact heap_top _ _ rfl
      obtain ⟨i0, hi0, hz0, hz1, hz2⟩ := infoStamp
      obtain ⟨a2, c2, Z, hr, hol, hal, hbe, _⟩ := app_own Y W1.heap.size 27 22 22 3 24 i0 _ Try.underlying22 hi0 hz0 hz1 hz2 rfl (by decide) (by decide) (HOV.out.below hby) (some ⟨V.heap.size, 0, none⟩) 1 1 (rowX c u p) (nums_stamp hv1) (fun h => by cases h) (by omega) (by omega) (Nat.le_trans HS2.out (Nat.le_trans (Nat.le_of_lt HSV.out) hby.size))
      have hs1 := HS1.out
      have HTZ : Hid (Z.heap[W2.heap.size]? = some (shaftB m a1 n c1)) := Lib.hid ((hal _ (Nat.lt_of_lt_of_le HSV.out hby.size) (fun x hx => by have := (HO2.out.lt x hx).2; omega)).trans (heap_lft HT.out hby))
      have HYZ : Hid (Z.heap[w.heap.size + 1 + 1]? = some (shaftB 0 none 0 0)) := Lib.hid ((hbe.block _ (by omega)).trans (heap_lft HYV.out hby))
      have HBZ : Hid (Below w.heap.size w Z) := Lib.hid ((below_thn HBV.out hby).trans (hbe.mono (by omega)))
      have HOZ := Lib.hid hol
      have HWL : Hid (w.heap.size + 3 ≤ W2.heap.size) := Lib.hid (by have := HS2.out; omega)
      rw [← hY] at hr
      have HAR := Lib.hid hr
      clear hY hby hv1 hi0 hz0 hz1 hz2 hr hol hal hbe hs1
      have t1 := heap_cell HT.out (j := 1) rfl
      have s0 := heap_cell HIV.out (j := 0) rfl
      have s1 := heap_cell HIV.out (j := 1) rfl
      have s2 := heap_cell HIV.out (j := 2) rfl
      have z1 := heap_cell HTZ.out (j := 1) rfl
      have g1 := heap_frozen HTZ.out 1
      go_upto_region 7 with (at_builtin; refine Lib.wpList_append_run _ rfl _ _ _ _ rfl _ _ rfl rfl _ _ HAR.out ?_)
      obtain ⟨M, hM⟩ : ∃ M, Z.setCell ⟨W2.heap.size, 1, none⟩ (.slice a2 (n + 1) c2) = M := ⟨_, rfl⟩
      have hwl := HWL.out
      have hs2 := HS2.out
      have HXM : Hid (M.heap[W2.heap.size]? = some (shaftB m a2 (n + 1) c2)) := Lib.hid (by rw [← hM]; exact heap_set HTZ.out 1 _)
      have HYM : Hid (M.heap[w.heap.size + 1 + 1]? = some (shaftB 0 none 0 0)) := Lib.hid (by rw [← hM]; exact (Below.heap_setCell _ _ _ _ (by dsimp only; omega)).trans HYZ.out)
      have HBM : Hid (Below w.heap.size w M) := Lib.hid (by rw [← hM]; exact HBZ.out.setCell (by dsimp only; omega) _)
      have HOM : Hid (OwnNums M W1.heap.size 27 3 a2 (n + 1) c2 (Pure.appF F n c u p)) := Lib.hid (by
        rw [← hM]
        refine HOZ.out.kept fun x hx => ?_
        refine Below.heap_setCell _ _ _ _ ?_
        dsimp only
        exact (HOZ.out.ne HTZ.out (by decide) x hx))
      try rw [hM]
      clear hM t1 s0 s1 s2 z1 g1 hwl hs2
      have x0 := heap_cell HXM.out (j := 0) rfl
      have x1 := heap_cell HXM.out (j := 1) rfl
      go_wp2_with fail
      refine (rShaft_any m a2 (n + 1) c2 (Pure.appF F n c u p) (by omega) _ HOM.out.nums).mono ?_
      rintro e2 N ⟨rfl, hb⟩
      have HXN := Lib.hid (heap_lft HXM.out hb)
      have HYN := Lib.hid (heap_lft HYM.out hb)
      have HBN := Lib.hid (below_thn HBM.out hb)
      have HON := Lib.hid (HOM.out.below hb)
      clear hb x0 x1
      obtain ⟨r, hr⟩ : ∃ r, Pure.shaft m (n + 1) (Pure.appF F n c u p) = r := ⟨_, rfl⟩
      rw [hr]
      have HR := Lib.hid hr
      clear hr
      have x0 := heap_cell HXN.out (j := 0) rfl
      have x1 := heap_cell HXN.out (j := 1) rfl
      have y0 := heap_cell HYN.out (j := 0) rfl
      have y1 := heap_cell HYN.out (j := 1) rfl
      have f0 := heap_frozen HYN.out 0
      have f1 := heap_frozen HYN.out 1
      have hs1 := HS1.out
      cases r
      · have hq0 : q = 2 := by rw [← HQ2.out, HR.out]; rfl
        subst hq0
        go_wp2_with fail
        refine bodyPost_ret (v := .tuple #[shaftV 0 none 0 0, .int .i64 2]) (by simp [results, Try.results9, go_sem, y0, y1]; try rfl) rfl ⟨0, none, 0, 0, rfl, rfl, rfl, own_nil _ _ _ _ _, ?_⟩
        repeat (first | with_reducible exact HBN.out | with_reducible refine Below.setCell ?_ (by first | (simp; done) | (dsimp only; omega)) _)
      · have hq0 : q = 0 := by rw [← HQ2.out, HR.out]; rfl
        subst hq0
        go_wp2_with fail
        refine bodyPost_ret (v := .tuple #[shaftV m a2 (n + 1) c2, .int .i64 0]) (by simp [results, Try.results9, go_sem, y0, y1]; try rfl) rfl ⟨m, a2, n + 1, c2, rfl, rfl, rfl, ?_, ?_⟩
        · refine OwnNums.base (base := W1.heap.size) ?_ (by omega)
          repeat (first | with_reducible exact HON.out | with_reducible refine OwnNums.set ?_ (by dsimp only; omega) _)
        · repeat (first | with_reducible exact HBN.out | with_reducible refine Below.setCell ?_ (by first | (simp; done) | (dsimp only; omega)) _)

end Go.Proofs.Ytijfdfplebbaaab
