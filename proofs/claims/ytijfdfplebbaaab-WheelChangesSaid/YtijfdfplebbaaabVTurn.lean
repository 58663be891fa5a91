/-
  The contracts of the program's gap, rest, checkSetting, checkBy, turned and Turned.
-/
import Derived.Test.YtijfdfplebbaaabVRef
import Derived.Test.YtijfdfplebbaaabRestF
import Derived.Lib.AppendZeros
namespace Go.Proofs.Ytijfdfplebbaaab
open Go.RowKit

namespace Pure
def setC (m : Int) (n : Nat) (F : Nat → Int) (sn : Nat) (S : Nat → Int) : Int := if shaft m n F = true then err (setB m n F sn S) 103 else 102
def turnC (m : Int) (n : Nat) (F : Nat → Int) (sn : Nat) (S : Nat → Int) (by_ : Int) : Int := if setC m n F sn S = 0 then err (decide (-12 ≤ by_ ∧ by_ ≤ 12)) 2 else setC m n F sn S
def turnF (m : Int) (F S : Nat → Int) (by_ : Int) : Nat → Int := fun j => (S j + by_) % (m / F (j * 3))
theorem err_zero {b : Bool} {n : Int} (hn : n ≠ 0) (h : err b n = 0) : b = true := by
  cases b
  · exact absurd h hn
  · rfl
theorem setC_zero {m : Int} {n : Nat} {F : Nat → Int} {sn : Nat} {S : Nat → Int} (h : setC m n F sn S = 0) : shaft m n F = true ∧ setB m n F sn S = true := by
  unfold setC at h
  split at h
  · exact ⟨by assumption, err_zero (by decide) h⟩
  · exact absurd h (by decide)
theorem turnC_zero {m : Int} {n : Nat} {F : Nat → Int} {sn : Nat} {S : Nat → Int} {by_ : Int} (h : turnC m n F sn S by_ = 0) : shaft m n F = true ∧ setB m n F sn S = true ∧ -12 ≤ by_ ∧ by_ ≤ 12 := by
  unfold turnC at h
  split at h
  · have h1 := setC_zero (by assumption)
    exact ⟨h1.1, h1.2, of_decide_eq_true (err_zero (by decide) h)⟩
  · rename_i h1
    exact absurd h h1
/-- The rest, as if numbers went on below 0. -/
theorem rest_facts {x g : Int} (hg : 2 ≤ g ∧ g ≤ 12) (hx : -100 ≤ x ∧ x ≤ 100) : ¬ g = 0 ∧ ∃ t, Int.tmod x g = t ∧ IntKind.i64.wrap t = t ∧ IntKind.i64.wrap (t + g) = t + g ∧ Int.tmod (t + g) g = x % g ∧ IntKind.i64.wrap (x % g) = x % g := by
  have h1 := Int.tmod_lt_of_pos x (show 0 < g by omega)
  have h2 := Int.lt_tmod_of_pos x (show 0 < g by omega)
  have h3 := Int.emod_nonneg x (show g ≠ 0 by omega)
  have h4 := Int.emod_lt_of_pos x (show 0 < g by omega)
  have h5 : Int.tmod x g % g = x % g := by
    have h6 := Int.tmod_add_mul_tdiv x g
    have h7 : Int.tmod x g = x - g * Int.tdiv x g := by omega
    rw [h7, Int.sub_mul_emod_self_left]
  refine ⟨by omega, Int.tmod x g, rfl, IntWalk.i64_in _ (by omega), IntWalk.i64_in _ (by omega), ?_, IntWalk.i64_in _ (by omega)⟩
  rw [Int.tmod_eq_emod_of_nonneg (by omega), Int.add_emod_right, h5]
end Pure
/-- What is answered beside a code: numbers of the call's own memory, none beside an error. -/
def TurnOut (sn : Nat) (G : Nat → Int) (code : Int) (w : World) (e : Ending) (w' : World) : Prop :=
  ∃ a k c, e = .returned (.tuple #[.slice a k c, .int .i64 code]) ∧ k = (if code = 0 then sn else 0) ∧ OwnNums w' w.heap.size 3 1 a k c G ∧ Below w.heap.size w w'
theorem infoInt : ∃ i, Try.prog.info? 3 = some i ∧ i.zero = some (.int .i64 0) ∧ i.size = 1 ∧ i.bytes = 8 := by
  have h : (Try.prog.info? 3).map (fun i => (i.zero, i.size, i.bytes)) = some (some (.int .i64 0), 1, 8) := by kernel_rfl
  obtain ⟨i, hi, h2⟩ := Option.map_eq_some_iff.1 h
  simp only [Prod.mk.injEq] at h2
  exact ⟨i, hi, h2.1, h2.2.1, h2.2.2⟩
abbrev axleB (m : Int) (a : Option Addr) (n c : Nat) : Obj := .cells #[.int .i64 m, .slice a n c] 46

set_option maxHeartbeats 4000000 in
set_option maxRecDepth 100000 in
theorem gap_any (m : Int) (a : Option Addr) (n cc : Nat) (F : Nat → Int) (i : Nat) (hi : i < n) (hn : n ≤ 40) (hv : Pure.shaft m n F = true) (w : World) (hF : NumsAt w a (n * 3) F) :
    Calls Try.prog 26 #[shaftV m a n cc, .int .i64 i] w fun e w' => e = .returned (.int .i64 (m / F (i * 3))) ∧ Below w.heap.size w w' := by
  obtain ⟨W, hW⟩ : ∃ W, w.alloc (axleB m a n cc) = W := ⟨_, rfl⟩
  have HB : Hid (Below w.heap.size w W) := Lib.hid (by rw [← hW]; exact below_new _ _)
  have HX : Hid (W.heap[w.heap.size]? = some (axleB m a n cc)) := Lib.hid (by rw [← hW]; exact heap_top _ _ rfl)
  have HP := Lib.hid (hF.below HB.out)
  clear hF
  obtain ⟨b, off, rfl, _⟩ := HP.out (i * 3) (by omega)
  have n1 : (i : Int) < n := by omega
  have c0 := HP.out.at (show i * 3 < n * 3 by omega)
  have hcam := Pure.shaft_cam hv hi
  obtain ⟨hc0, _, hdi, _, hwd, _, _, _⟩ := Pure.quo_facts (Pure.shaft_iff.1 hv).1 hcam.1.1
  obtain ⟨c, hc⟩ : ∃ x, F (i * 3) = x := ⟨_, rfl⟩
  rw [hc] at c0 hc0 hdi hwd ⊢
  clear hc hcam
  obtain ⟨dv, hdvE⟩ : ∃ z, m / c = z := ⟨_, rfl⟩
  rw [hdvE] at hdi hwd ⊢
  clear hdvE
  have y0 := heap_cell HX.out (j := 0) rfl
  have y1 := heap_cell HX.out (j := 1) rfl
  go_enter Try.func26, Try.ntmps26
  go_upto_region 1 with fail
  try rw [hW]
  clear hW
  have xx0 := among_below c0
  have xx1 := among_below y0
  have xx2 := among_below y1
  have HSt : Hid (Below W.heap.size W W.drew) := Lib.hid (Below.refl _ _).drew
  have hne : Nonempty (Among (Below W.heap.size W)) := ⟨⟨_, HSt.out⟩⟩
  refine wp_region_class (Below W.heap.size W) (by kernel_rfl) (by kernel_rfl) HSt.out ?_
  repeat (go_big_quiet_step (fail))
  refine wpQuiet_nil ?_
  intro w8 hx
  have HB8 := Lib.hid (among_out hx)
  clear hx hne xx0 xx1 xx2
  go_wp2_with fail
  go_ret
  exact ⟨rfl, below_thn HB.out HB8.out⟩

set_option maxHeartbeats 1000000 in
theorem rest_any (x g : Int) (hg : 2 ≤ g ∧ g ≤ 12) (hx : -100 ≤ x ∧ x ≤ 100) (w : World) :
    Calls Try.prog 27 #[.int .i64 x, .int .i64 g] w fun e w' => e = .returned (.int .i64 (x % g)) ∧ w = w' := by
  obtain ⟨h0, t, ht, hw1, hw2, ht2, hw3⟩ := Pure.rest_facts hg hx
  obtain ⟨r, hr⟩ : ∃ z, x % g = z := ⟨_, rfl⟩
  rw [hr] at ht2 hw3 ⊢
  clear hr hg hx
  go_enter Try.func27, Try.ntmps27
  go_wp2_with fail
  go_ret
  exact ⟨rfl, rfl⟩

set_option maxHeartbeats 8000000 in
set_option maxRecDepth 100000 in
theorem checkSetting_any (m : Int) (a : Option Addr) (n cc : Nat) (F : Nat → Int) (sa : Option Addr) (sn sc : Nat) (S : Nat → Int) (hn : n ≤ 40) (hsn : sn ≤ 40) (w : World) (hF : NumsAt w a (n * 3) F) (hS : NumsAt w sa sn S) :
    Calls Try.prog 13 #[shaftV m a n cc, .slice sa sn sc] w fun e w' => e = .returned (.int .i64 (Pure.setC m n F sn S)) ∧ Below w.heap.size w w' := by
  obtain ⟨W, hW⟩ : ∃ W, w.alloc (shaftB m a n cc) = W := ⟨_, rfl⟩
  have HB : Hid (Below w.heap.size w W) := Lib.hid (by rw [← hW]; exact below_new _ _)
  have HX : Hid (W.heap[w.heap.size]? = some (shaftB m a n cc)) := Lib.hid (by rw [← hW]; exact heap_top _ _ rfl)
  have HP := Lib.hid (hF.below HB.out)
  have HS := Lib.hid (hS.below HB.out)
  clear hF hS
  obtain ⟨q, hq⟩ : ∃ q, (if Pure.err (Pure.shaft m n F) 102 = 0 then Pure.err (((sn : Int) == (n : Int))) 103 else Pure.err (Pure.shaft m n F) 102) = q := ⟨_, rfl⟩
  have HQ := Lib.hid hq
  clear hq
  go_enter Try.func13, Try.ntmps13
  go_upto_region 1 with fail
  try rw [hW]
  clear hW
  go_cut [5] from 9 to 19 (fun s wx => s = .int .i64 q ∧ Below W.heap.size W wx)
  case first =>
    rename_i J K' hJ hK'
    generalize hA : (Act.mk _ _ : Act) = a0
    have m1 : At a0 1 (.slice sa sn sc) := by rw [← hA]; rfl
    have m2 : At a0 2 (.pointer (some ⟨w.heap.size, 0, none⟩)) := by rw [← hA]; rfl
    have hsz : 19 < a0.tmps.size := by rw [← hA]; exact of_decide_eq_true (by kernel_rfl)
    have hfin : ∀ a' w', Kept (5 :: List.range' 9 11) a0 a' → At a' 5 (.int .i64 q) → (Below W.heap.size W w') → K' a' w' := by
      intro a' w' hI hv5 hL
      refine hK' _ _ (Met.intro (hJ _ _ ⟨a'.tmps.getD 5 undef, a'.tmps.getD 9 undef, a'.tmps.getD 10 undef, a'.tmps.getD 11 undef, a'.tmps.getD 12 undef, a'.tmps.getD 13 undef, a'.tmps.getD 14 undef, a'.tmps.getD 15 undef, a'.tmps.getD 16 undef, a'.tmps.getD 17 undef, a'.tmps.getD 18 undef, a'.tmps.getD 19 undef, ⟨by have g := hv5; unfold At at g; rw [Array.getD_eq_getD_getElem?, g]; rfl, hL⟩, hI.eq.trans ?_⟩))
      rw [← hA]
      kernel_rfl
    have hI : Kept (5 :: List.range' 9 11) a0 a0 := Kept.refl _ _
    clear hA hJ hK' J
    refine with_pan (fun d _ _ _ _ h => by cases d <;> exact h) ?_
    intro hpan
    refine wp_region_rest (fun z => z.heap[w.heap.size]? = some (shaftB m a n cc)) (by kernel_rfl) ?_
    obtain ⟨wz, hwz⟩ : ∃ x, W.drew = x := ⟨_, rfl⟩
    change Rest _ _ _ _ _ _ _ (W.drew)
    rw [hwz]
    have hq : Below W.heap.size W wz := by rw [← hwz]; exact (Below.refl _ _).drew
    clear hwz
    have hS := heap_lft HX.out hq
    refine rest_take (k := 0) (d := 9) (v := shaftV m a n cc) hI rfl rfl (by kernel_rfl) (Nat.lt_of_le_of_lt (by decide) hsz) (by kernel_rfl) hpan (by kernel_rfl) hS (wanted_free rfl) (fun z hz => by have n2 := hI.at m2 (by kernel_rfl); have e2 := n2; have f2 := n2.eval; unfold At at e2; have k0 := heap_cell hz (j := 0) rfl; have k1 := heap_cell hz (j := 1) rfl; simp [go_sem, e2, k0, k1]) (fun a' hI' n9' hk => ?_)
    have n9 := n9'
    replace hI := hI'
    clear hk hI' n9'
    obtain ⟨act9, rfl⟩ : ∃ x, x = a' := ⟨_, rfl⟩
    refine rest_take (k := 2) (d := 11) (v := .slice sa sn sc) hI rfl rfl (by kernel_rfl) (Nat.lt_of_le_of_lt (by decide) hsz) (by kernel_rfl) hpan (by kernel_rfl) hS (wanted_free rfl) (fun z hz => by have n1 := hI.at m1 (by kernel_rfl); have e1 := n1; have f1 := n1.eval; unfold At at e1; simp [go_sem, e1]) (fun a' hI' n11' hk => ?_)
    replace n9 := hk _ _ n9 rfl
    have n11 := n11'
    replace hI := hI'
    clear hk hI' n11'
    obtain ⟨act9, rfl⟩ : ∃ x, x = a' := ⟨_, rfl⟩
    refine rest_take (k := 3) (d := 12) (v := .int .i64 sn) hI rfl rfl (by kernel_rfl) (Nat.lt_of_le_of_lt (by decide) hsz) (by kernel_rfl) hpan (by kernel_rfl) hS (wanted_free rfl) (fun z hz => by have e11 := n11; have f11 := n11.eval; unfold At at e11; simp [go_sem, e11]) (fun a' hI' n12' hk => ?_)
    replace n9 := hk _ _ n9 rfl
    replace n11 := hk _ _ n11 rfl
    have n12 := n12'
    replace hI := hI'
    clear hk hI' n12'
    obtain ⟨act9, rfl⟩ : ∃ x, x = a' := ⟨_, rfl⟩
    clear n11
    refine rest_take (k := 4) (d := 13) (v := .pointer (some ⟨w.heap.size, 1, none⟩)) hI rfl rfl (by kernel_rfl) (Nat.lt_of_le_of_lt (by decide) hsz) (by kernel_rfl) hpan (by kernel_rfl) hS (wanted_free rfl) (fun z hz => by have n2 := hI.at m2 (by kernel_rfl); have e2 := n2; have f2 := n2.eval; unfold At at e2; simp [go_sem, e2]) (fun a' hI' n13' hk => ?_)
    replace n9 := hk _ _ n9 rfl
    replace n12 := hk _ _ n12 rfl
    have n13 := n13'
    replace hI := hI'
    clear hk hI' n13'
    obtain ⟨act9, rfl⟩ : ∃ x, x = a' := ⟨_, rfl⟩
    refine rest_take (k := 5) (d := 14) (v := .slice a n cc) hI rfl rfl (by kernel_rfl) (Nat.lt_of_le_of_lt (by decide) hsz) (by kernel_rfl) hpan (by kernel_rfl) hS (wanted_free rfl) (fun z hz => by have e13 := n13; have f13 := n13.eval; unfold At at e13; have k1 := heap_cell hz (j := 1) rfl; simp [go_sem, e13, k1]) (fun a' hI' n14' hk => ?_)
    replace n9 := hk _ _ n9 rfl
    replace n12 := hk _ _ n12 rfl
    replace n13 := hk _ _ n13 rfl
    have n14 := n14'
    replace hI := hI'
    clear hk hI' n14'
    obtain ⟨act9, rfl⟩ : ∃ x, x = a' := ⟨_, rfl⟩
    clear n13
    refine rest_take (k := 6) (d := 15) (v := .int .i64 n) hI rfl rfl (by kernel_rfl) (Nat.lt_of_le_of_lt (by decide) hsz) (by kernel_rfl) hpan (by kernel_rfl) hS (wanted_free rfl) (fun z hz => by have e14 := n14; have f14 := n14.eval; unfold At at e14; simp [go_sem, e14]) (fun a' hI' n15' hk => ?_)
    replace n9 := hk _ _ n9 rfl
    replace n12 := hk _ _ n12 rfl
    replace n14 := hk _ _ n14 rfl
    have n15 := n15'
    replace hI := hI'
    clear hk hI' n15'
    obtain ⟨act9, rfl⟩ : ∃ x, x = a' := ⟨_, rfl⟩
    clear n14
    refine rest_take (k := 7) (d := 16) (v := .bool (((sn : Int) == (n : Int)))) hI rfl rfl (by kernel_rfl) (Nat.lt_of_le_of_lt (by decide) hsz) (by kernel_rfl) hpan (by kernel_rfl) hS (wanted_free rfl) (fun z hz => by have e12 := n12; have f12 := n12.eval; unfold At at e12; have e15 := n15; have f15 := n15.eval; unfold At at e15; simp [go_sem, e12, e15]) (fun a' hI' n16' hk => ?_)
    replace n9 := hk _ _ n9 rfl
    replace n12 := hk _ _ n12 rfl
    replace n15 := hk _ _ n15 rfl
    have n16 := n16'
    replace hI := hI'
    clear hk hI' n16'
    obtain ⟨act9, rfl⟩ : ∃ x, x = a' := ⟨_, rfl⟩
    clear n12
    clear n15
    refine rest_only (k := 1) (by kernel_rfl) (op_call (k := 1) (d := 10) (R := fun v w' => v = .int .i64 (Pure.err (Pure.shaft m n F) 102) ∧ Below wz.heap.size wz w') hI rfl rfl (by kernel_rfl) (Nat.lt_of_le_of_lt (by decide) hsz) (wanted_free rfl) ((sound_any m a n cc F (by omega) _ (HP.out.below hq)).mono fun e w' g => ⟨_, g.1, rfl, g.2⟩) (by have e9 := n9; have f9 := n9.eval; unfold At at e9; simp [go_sem, e9]) ?_)
    intro v w' a' hR hI' n10' hk
    obtain ⟨rfl, hb⟩ := hR
    refine ⟨heap_lft hS hb, ?_⟩
    replace n9 := hk _ _ n9 rfl
    replace n16 := hk _ _ n16 rfl
    have n10 := n10'
    replace hI := hI'
    clear hk hI' n10'
    obtain ⟨act9, rfl⟩ : ∃ x, x = a' := ⟨_, rfl⟩
    replace hS := heap_lft hS hb
    replace hq := below_thn hq hb
    clear hb
    obtain ⟨u1, rfl⟩ : ∃ x, x = w' := ⟨_, rfl⟩
    clear n9
    refine rest_only (k := 8) (by kernel_rfl) (op_call (k := 8) (d := 17) (R := fun v w' => v = .int .i64 (Pure.err (((sn : Int) == (n : Int))) 103) ∧ u1 = w') hI rfl rfl (by kernel_rfl) (Nat.lt_of_le_of_lt (by decide) hsz) (wanted_free rfl) ((unless_any _ _ _).mono fun e w' g => ⟨_, g.1, rfl, g.2⟩) (by have e16 := n16; have f16 := n16.eval; unfold At at e16; simp [go_sem, e16]) ?_)
    intro v w' a' hR hI' n17' hk
    obtain ⟨rfl, rfl⟩ := hR
    refine ⟨hS, ?_⟩
    replace n16 := hk _ _ n16 rfl
    replace n10 := hk _ _ n10 rfl
    have n17 := n17'
    replace hI := hI'
    clear hk hI' n17'
    obtain ⟨act9, rfl⟩ : ∃ x, x = a' := ⟨_, rfl⟩
    clear n16
    have hn1 := below_new u1 (.cells #[.int .i64 (Pure.err (Pure.shaft m n F) 102), .int .i64 (Pure.err (((sn : Int) == (n : Int))) 103)] 30)
    have hq1 := below_thn hq hn1
    have hs1 := heap_lft hS hn1
    have hc0 := cells_top u1 #[.int .i64 (Pure.err (Pure.shaft m n F) 102), .int .i64 (Pure.err (((sn : Int) == (n : Int))) 103)] 30 rfl 0
    have hc1 := cells_top u1 #[.int .i64 (Pure.err (Pure.shaft m n F) 102), .int .i64 (Pure.err (((sn : Int) == (n : Int))) 103)] 30 rfl 1
    obtain ⟨u2, hu2⟩ : ∃ x, u1.alloc (.cells #[.int .i64 (Pure.err (Pure.shaft m n F) 102), .int .i64 (Pure.err (((sn : Int) == (n : Int))) 103)] 30) = x := ⟨_, rfl⟩
    rw [hu2] at hn1 hq1 hs1 hc0 hc1
    refine rest_only (k := 9) (by kernel_rfl) (op_value (k := 9) (d := 18) (v := .slice (some ⟨u1.heap.size, 0, none⟩) 2 2) hI rfl rfl (by kernel_rfl) (Nat.lt_of_le_of_lt (by decide) hsz) (wanted_free rfl) (by have e10 := n10; have f10 := n10.eval; unfold At at e10; have e17 := n17; have f17 := n17.eval; unfold At at e17; simp [go_sem, e10, e17]; try rfl) (fun a' hI' n18' hk => ⟨by rw [hu2]; exact hs1, ?_⟩))
    replace n10 := hk _ _ n10 rfl
    replace n17 := hk _ _ n17 rfl
    have n18 := n18'
    replace hI := hI'
    clear hk hI' n18'
    obtain ⟨act9, rfl⟩ : ∃ x, x = a' := ⟨_, rfl⟩
    rw [hu2]
    clear hu2 hS hq hn1
    replace hS := hs1
    replace hq := hq1
    clear hs1 hq1
    clear n10
    clear n17
    refine rest_only (k := 10) (by kernel_rfl) (op_call (k := 10) (d := 19) (R := fun v w' => v = .int .i64 q ∧ Below u2.heap.size u2 w') hI rfl rfl (by kernel_rfl) (Nat.lt_of_le_of_lt (by decide) hsz) (wanted_free rfl) ((firstError2 _ _ _ 2 _ hc0 hc1).mono fun e w' g => ⟨_, g.1, congrArg (Value.int .i64) HQ.out, g.2⟩) (by have e18 := n18; have f18 := n18.eval; unfold At at e18; simp [go_sem, e18]) ?_)
    intro v w' a' hR hI' n19' hk
    obtain ⟨rfl, hb⟩ := hR
    refine ⟨heap_lft hS hb, ?_⟩
    replace n18 := hk _ _ n18 rfl
    have n19 := n19'
    replace hI := hI'
    clear hk hI' n19'
    obtain ⟨act9, rfl⟩ : ∃ x, x = a' := ⟨_, rfl⟩
    replace hS := heap_lft hS hb
    replace hq := below_thn hq hb
    clear hb
    refine rest_take (k := 11) (d := 5) (v := .int .i64 q) hI rfl rfl (by kernel_rfl) (Nat.lt_of_le_of_lt (by decide) hsz) (by kernel_rfl) hpan (by kernel_rfl) hS (wanted_free rfl) (fun z hz => by have e19 := n19; have f19 := n19.eval; unfold At at e19; simp [go_sem, e19]) (fun a' hI' n5' hk => ?_)
    replace n18 := hk _ _ n18 rfl
    replace n19 := hk _ _ n19 rfl
    have n5 := n5'
    replace hI := hI'
    clear hk hI' n5'
    obtain ⟨act9, rfl⟩ : ∃ x, x = a' := ⟨_, rfl⟩
    refine rest_done (by kernel_rfl) ?_
    exact hfin _ _ hI n5 hq
  case rest =>
    obtain ⟨W1, rfl⟩ : ∃ x, x = wc := ⟨_, rfl⟩
    obtain ⟨rfl, hb⟩ := hcut
    have HX1 := Lib.hid (heap_lft HX.out hb)
    have HB1 := Lib.hid (below_thn HB.out hb)
    have HP1 := Lib.hid (HP.out.below hb)
    have HS1 := Lib.hid (HS.out.below hb)
    clear hb
    by_cases hv : Pure.shaft m n F = true
    rotate_left
    · have hvf : Pure.shaft m n F = false := by simpa using hv
      have hq0 : q = 102 := by rw [← HQ.out, hvf]; rfl
      subst hq0
      have HV := Lib.hid hvf
      clear hv hvf
      go_wp2_with fail
      go_ret
      exact ⟨ret_int (by simp [Pure.setC, HV.out]), HB1.out⟩
    · by_cases hne : sn = n
      rotate_left
      · have hq0 : q = 103 := by rw [← HQ.out, hv, show ((sn : Int) == (n : Int)) = false from by simp; omega]; rfl
        subst hq0
        have HV := Lib.hid hv
        have HNE := Lib.hid hne
        clear hv hne
        go_wp2_with fail
        go_ret
        exact ⟨ret_int (by rw [Pure.setC, if_pos HV.out, Pure.setB_no (fun g => HNE.out g.1)]; rfl), HB1.out⟩
      · subst hne
        have hq0 : q = 0 := by rw [← HQ.out, hv]; simp [Pure.err]
        subst hq0
        have HV := Lib.hid hv
        clear hv
        have x0 := heap_cell HX1.out (j := 0) rfl
        have x1 := heap_cell HX1.out (j := 1) rfl
        go_upto_region 5 with fail
        obtain ⟨V, hV⟩ : ∃ x, W1.alloc (axleB m a sn cc) = x := ⟨_, rfl⟩
        have hb : Below W1.heap.size W1 V := by rw [← hV]; exact below_new _ _
        have HY : Hid (V.heap[W1.heap.size]? = some (axleB m a sn cc)) := Lib.hid (by rw [← hV]; exact heap_top _ _ rfl)
        have HBV := Lib.hid (below_thn HB1.out hb)
        have HPV := Lib.hid (HP1.out.below hb)
        have HSV := Lib.hid (HS1.out.below hb)
        try rw [hV]
        clear hV hb x0 x1
        go_wp2_with fail
        go_loopw [7, 8, 27] (fun _ _ i wr => ∃ k : Nat, k ≤ sn ∧ i = .int .i64 k ∧ (∀ j, j < k → 0 ≤ S j ∧ S j ≤ m / F (j * 3) - 1) ∧ Below V.heap.size V wr) (fun _ _ i _ => sn - (intOf i).toNat)
        case atStart => exact ⟨0, Nat.zero_le _, rfl, fun j hj => by omega, Below.refl _ _⟩
        case round =>
          obtain ⟨k, hk, rfl, hq, hb⟩ := hrel
          have HQk := Lib.hid hq
          have HBk := Lib.hid hb
          have HYk := Lib.hid (heap_lft HY.out hb)
          clear hq hb
          by_cases hk1 : k < sn
          · obtain ⟨b', off', rfl, _⟩ := HSV.out k hk1
            have n1 : (k : Int) < sn := by omega
            have d0 := (HSV.out.below HBk.out).at hk1
            obtain ⟨sv, he⟩ : ∃ x, S k = x := ⟨_, rfl⟩
            rw [he] at d0
            have y0 := heap_cell HYk.out (j := 0) rfl
            have y1 := heap_cell HYk.out (j := 1) rfl
            have HSE := Lib.hid he
            clear he
            go_wp2_with fail
            refine (gap_any m a sn cc F k hk1 hn HV.out _ (HPV.out.below HBk.out)).mono ?_
            rintro e U ⟨rfl, hb⟩
            have HBU := Lib.hid (below_thn HBk.out hb)
            clear hb y0 y1 d0
            have hcam := Pure.shaft_cam HV.out hk1
            obtain ⟨_, _, _, _, _, hw1, _, _⟩ := Pure.quo_facts (Pure.shaft_iff.1 HV.out).1 hcam.1.1
            obtain ⟨dv, hdvE⟩ : ∃ z, m / F (k * 3) = z := ⟨_, rfl⟩
            rw [hdvE] at hw1 ⊢
            have HDV := Lib.hid hdvE
            clear hdvE hcam
            obtain ⟨s1, hs1⟩ : ∃ r, decide (0 ≤ sv ∧ sv ≤ dv - 1) = r := ⟨_, rfl⟩
            have HS1' := Lib.hid hs1
            clear hs1
            go_wp2_with fail
            refine (within1 0 (dv - 1) sv _ _ _ (first_cell _ _ _ rfl) s1 HS1'.out).mono ?_
            rintro e u ⟨rfl, rfl⟩
            have HBU2 : Hid (Below V.heap.size V ((U.alloc (.cells #[.int .i64 sv] 3)).alloc (spanB 0 (dv - 1)))) := Lib.hid (below_thn (below_thn HBU.out (below_new _ _)) (below_new _ _))
            cases s1
            · go_wp2_with fail
              go_ret
              exact ⟨ret_int (by rw [Pure.setC, if_pos HV.out, Pure.setB_no (fun g => by have h1 := of_decide_eq_false HS1'.out; have h2 := g.2 k hk1; rw [HSE.out, HDV.out] at h2; exact h1 h2)]; rfl), below_thn HBV.out HBU2.out⟩
            · go_wp2_with fail
              go_roundw
              case rel => exact ⟨k + 1, by omega, by go_num, fun j hj => by
                by_cases e : j = k
                · subst e
                  rw [HSE.out, HDV.out]
                  exact of_decide_eq_true HS1'.out
                · exact HQk.out j (by omega), HBU2.out⟩
              case measure => simp [intOf]; omega
          · obtain rfl : k = sn := by omega
            go_wp2_with fail
            go_ret
            exact ⟨ret_int (by rw [Pure.setC, if_pos HV.out, Pure.setB_iff.2 ⟨rfl, HQk.out⟩]; rfl), below_thn HBV.out HBk.out⟩

set_option maxHeartbeats 1000000 in
theorem checkBy_any (by_ : Int) (w : World) : Calls Try.prog 14 #[.int .i64 by_] w fun e w' => e = .returned (.int .i64 (Pure.err (decide (-12 ≤ by_ ∧ by_ ≤ 12)) 2)) ∧ Below w.heap.size w w' := by
  obtain ⟨s1, hs1⟩ : ∃ r, decide (-12 ≤ by_ ∧ by_ ≤ 12) = r := ⟨_, rfl⟩
  rw [hs1]
  have HS1 := Lib.hid hs1
  clear hs1
  go_enter Try.func14, Try.ntmps14
  go_wp2_with fail
  refine (within1 (-12) 12 by_ _ _ _ (first_cell _ _ _ rfl) s1 HS1.out).mono ?_
  rintro e u ⟨rfl, rfl⟩
  go_wp2_with fail
  refine (unless_any _ _ _).mono ?_
  rintro e u ⟨rfl, rfl⟩
  go_wp2_with fail
  go_ret
  exact ⟨rfl, by repeat (first | exact Below.refl _ _ | refine Below.alloc ?_ (by simp; try omega) _)⟩

set_option maxHeartbeats 8000000 in
set_option maxRecDepth 100000 in
theorem turned_any (m : Int) (a : Option Addr) (n cc : Nat) (F : Nat → Int) (sa : Option Addr) (sc : Nat) (S : Nat → Int) (by_ : Int) (hn : n ≤ 40) (hv : Pure.shaft m n F = true) (hs : Pure.setB m n F n S = true) (hby : -12 ≤ by_ ∧ by_ ≤ 12) (w : World) (hF : NumsAt w a (n * 3) F) (hS : NumsAt w sa n S) :
    Calls Try.prog 15 #[shaftV m a n cc, .slice sa n sc, .int .i64 by_] w fun e w' => ∃ a' c', e = .returned (.slice a' n c') ∧ OwnNums w' w.heap.size 3 1 a' n c' (Pure.turnF m F S by_) ∧ Below w.heap.size w w' := by
  obtain ⟨W, hW⟩ : ∃ W, w.alloc (axleB m a n cc) = W := ⟨_, rfl⟩
  have HB : Hid (Below w.heap.size w W) := Lib.hid (by rw [← hW]; exact below_new _ _)
  have HX : Hid (W.heap[w.heap.size]? = some (axleB m a n cc)) := Lib.hid (by rw [← hW]; exact heap_top _ _ rfl)
  have HP := Lib.hid (hF.below HB.out)
  have HS := Lib.hid (hS.below HB.out)
  have HV := Lib.hid hv
  have HSB := Lib.hid (Pure.setB_iff.1 hs).2
  have HBY := Lib.hid hby
  clear hF hS hv hs hby
  go_enter Try.func15, Try.ntmps15
  go_upto_region 1 with fail
  try rw [hW]
  clear hW
  go_wp2_with fail
  go_loopw [7, 8, 9, 12] (fun l _ _ i wr => ∃ (k : Nat) (a' : Option Addr) (c' : Nat), k ≤ n ∧ i = .int .i64 k ∧ l = .slice a' k c' ∧ OwnNums wr W.heap.size 3 1 a' k c' (Pure.turnF m F S by_) ∧ Below W.heap.size W wr) (fun _ _ _ i _ => n - (intOf i).toNat)
  case atStart => exact ⟨0, none, 0, Nat.zero_le _, rfl, rfl, own_nil _ _ _ _ _, Below.refl _ _⟩
  case round =>
    obtain ⟨k, a', c', hk, rfl, rfl, ho, hb⟩ := hrel
    have HOk := Lib.hid ho
    have HBk := Lib.hid hb
    have HXk := Lib.hid (heap_lft HX.out hb)
    clear ho hb
    by_cases hk1 : k < n
    · obtain ⟨b', off', rfl, _⟩ := HS.out k hk1
      have n1 : (k : Int) < n := by omega
      have d0 := (HS.out.below HBk.out).at hk1
      obtain ⟨sv, he⟩ : ∃ x, S k = x := ⟨_, rfl⟩
      rw [he] at d0
      have y0 := heap_cell HXk.out (j := 0) rfl
      have y1 := heap_cell HXk.out (j := 1) rfl
      have hsv := HSB.out k hk1
      have hcam := Pure.shaft_cam HV.out hk1
      obtain ⟨_, _, _, _, _, _, _, hdv1⟩ := Pure.quo_facts (Pure.shaft_iff.1 HV.out).1 hcam.1.1
      have hby := HBY.out
      have hws : IntKind.i64.wrap (sv + by_) = sv + by_ := IntWalk.i64_in _ (by rw [he] at hsv; omega)
      have HSE := Lib.hid he
      have HG : Hid ((2 ≤ m / F (k * 3) ∧ m / F (k * 3) ≤ 12) ∧ -100 ≤ sv + by_ ∧ sv + by_ ≤ 100) := Lib.hid (by rw [he] at hsv; omega)
      clear he hsv hcam hdv1 hby
      go_wp2_with fail
      refine (gap_any m a n cc F k hk1 hn HV.out _ (HP.out.below HBk.out)).mono ?_
      rintro e U ⟨rfl, hb⟩
      have HBU := Lib.hid (below_thn HBk.out hb)
      have HOU := Lib.hid (HOk.out.below hb)
      clear hb y0 y1 d0
      obtain ⟨dv, hdvE⟩ : ∃ z, m / F (k * 3) = z := ⟨_, rfl⟩
      rw [hdvE] at HG ⊢
      have HDV := Lib.hid hdvE
      clear hdvE
      go_wp2_with fail
      refine (rest_any (sv + by_) dv HG.out.1 HG.out.2 _).mono ?_
      rintro e U' ⟨rfl, rfl⟩
      clear hws
      obtain ⟨v, hv⟩ : ∃ z, (sv + by_) % dv = z := ⟨_, rfl⟩
      rw [hv]
      have HVE : Hid (Pure.turnF m F S by_ k = v) := Lib.hid (by rw [Pure.turnF, HSE.out, HDV.out, hv])
      clear hv
      obtain ⟨Y, hY⟩ : ∃ Y, U.alloc (.cells #[.int .i64 v] 3) = Y := ⟨_, rfl⟩
      have hby : Below U.heap.size U Y := by rw [← hY]; exact below_new _ _
      have hsrc : NumsAt Y (some ⟨U.heap.size, 0, none⟩) (1 * 1) (fun _ => v) := nums_one (by rw [← hY]; exact first_cell _ _ _ rfl)
      obtain ⟨i0, hi0, hz0, hz1, hz2⟩ := infoInt
      obtain ⟨a2, c2, Z, hr, hol, _, hbe, _⟩ := app_own Y W.heap.size 3 25 25 1 8 i0 _ Try.underlying25 hi0 hz0 hz1 hz2 rfl (by decide) (by decide) (HOU.out.below hby) (some ⟨U.heap.size, 0, none⟩) 1 1 (fun _ => v) hsrc (fun h => by cases h) (by omega) (by omega) (Nat.le_trans HBU.out.size hby.size)
      have HO2 : Hid (OwnNums Z W.heap.size 3 1 a2 (k + 1) c2 (Pure.turnF m F S by_)) := Lib.hid (hol.congr (fun q hq => by
        unfold joinF
        by_cases h1 : q < k * 1
        · rw [if_pos h1]
        · rw [if_neg h1]
          obtain rfl : q = k := by omega
          exact HVE.out.symm))
      have HBZ : Hid (Below W.heap.size W Z) := Lib.hid ((below_thn HBU.out hby).trans hbe)
      rw [← hY] at hr
      have HAR := Lib.hid hr
      clear hY hby hsrc hi0 hz0 hz1 hz2 hr hol hbe
      go_wp2_with (at_builtin; refine Lib.wpList_append_run _ rfl _ _ _ _ rfl _ _ rfl rfl _ _ HAR.out ?_)
      go_roundw
      case rel => exact ⟨k + 1, a2, c2, by omega, by go_num, rfl, HO2.out, HBZ.out⟩
      case measure => simp [intOf]; omega
    · obtain rfl : k = n := by omega
      go_wp2_with fail
      go_ret
      exact ⟨a', c', rfl, HOk.out.base HB.out.size, below_thn HB.out HBk.out⟩

set_option maxHeartbeats 8000000 in
set_option maxRecDepth 100000 in
/-- **Turned**. -/
theorem turnedTop_any (m : Int) (a : Option Addr) (n cc : Nat) (F : Nat → Int) (sa : Option Addr) (sn sc : Nat) (S : Nat → Int) (by_ : Int) (hn : n ≤ 40) (hsn : sn ≤ 40) (w : World) (hF : NumsAt w a (n * 3) F) (hS : NumsAt w sa sn S) :
    Calls Try.prog 6 #[shaftV m a n cc, .slice sa sn sc, .int .i64 by_] w (TurnOut sn (Pure.turnF m F S by_) (Pure.turnC m n F sn S by_) w) := by
  obtain ⟨W, hW⟩ : ∃ W, w.alloc (shaftB m a n cc) = W := ⟨_, rfl⟩
  have HB : Hid (Below w.heap.size w W) := Lib.hid (by rw [← hW]; exact below_new _ _)
  have HX : Hid (W.heap[w.heap.size]? = some (shaftB m a n cc)) := Lib.hid (by rw [← hW]; exact heap_top _ _ rfl)
  have HP := Lib.hid (hF.below HB.out)
  have HS := Lib.hid (hS.below HB.out)
  clear hF hS
  obtain ⟨q, hq⟩ : ∃ q, Pure.turnC m n F sn S by_ = q := ⟨_, rfl⟩
  rw [hq]
  have HQ := Lib.hid hq
  clear hq
  have x0 := heap_cell HX.out (j := 0) rfl
  have x1 := heap_cell HX.out (j := 1) rfl
  go_enter Try.func6, Try.ntmps6
  go_upto_region 1 with fail
  try rw [hW]
  clear hW
  go_wp2_with fail
  refine (checkSetting_any m a n cc F sa sn sc S hn hsn _ HP.out HS.out).mono ?_
  rintro e W1 ⟨rfl, hb⟩
  have HX1 := Lib.hid (heap_lft HX.out hb)
  have HB1 := Lib.hid (below_thn HB.out hb)
  have HP1 := Lib.hid (HP.out.below hb)
  have HS1 := Lib.hid (HS.out.below hb)
  clear hb x0 x1
  obtain ⟨c1, hc1⟩ : ∃ z, Pure.setC m n F sn S = z := ⟨_, rfl⟩
  rw [hc1]
  have HC1 := Lib.hid hc1
  clear hc1
  go_wp2_with fail
  refine (checkBy_any by_ _).mono ?_
  rintro e W2 ⟨rfl, hb⟩
  have HX2 := Lib.hid (heap_lft HX1.out hb)
  have HB2 := Lib.hid (below_thn HB1.out hb)
  have HP2 := Lib.hid (HP1.out.below hb)
  have HS2 := Lib.hid (HS1.out.below hb)
  clear hb
  obtain ⟨c2, hc2⟩ : ∃ z, Pure.err (decide (-12 ≤ by_ ∧ by_ ≤ 12)) 2 = z := ⟨_, rfl⟩
  rw [hc2]
  have HC2 := Lib.hid hc2
  clear hc2
  go_wp2_with fail
  refine (firstError2 c1 c2 W2.heap.size 2 _ (cells_top W2 #[.int .i64 c1, .int .i64 c2] 30 rfl 0) (cells_top W2 #[.int .i64 c1, .int .i64 c2] 30 rfl 1)).mono ?_
  rintro e W3 ⟨rfl, hb0⟩
  have hb := below_thn (below_new _ _) hb0
  have HX3 := Lib.hid (heap_lft HX2.out hb)
  have HB3 := Lib.hid (below_thn HB2.out hb)
  have HP3 := Lib.hid (HP2.out.below hb)
  have HS3 := Lib.hid (HS2.out.below hb)
  clear hb hb0
  have hqq : (if c1 = 0 then c2 else c1) = q := by rw [← HQ.out, Pure.turnC, HC1.out, HC2.out]
  rw [hqq]
  clear hqq
  by_cases h0 : q = 0
  · subst h0
    obtain ⟨hv, hs, hby⟩ := Pure.turnC_zero HQ.out
    obtain rfl : sn = n := (Pure.setB_iff.1 hs).1
    have HVV := Lib.hid (And.intro hv (And.intro hs hby))
    clear hv hs hby
    have x0 := heap_cell HX3.out (j := 0) rfl
    have x1 := heap_cell HX3.out (j := 1) rfl
    go_wp2_with fail
    refine (turned_any m a sn cc F sa sc S by_ hn HVV.out.1 HVV.out.2.1 HVV.out.2.2 _ HP3.out HS3.out).mono ?_
    rintro e W4 ⟨a', c', rfl, ho, hb⟩
    have HO := Lib.hid ho
    have HB4 := Lib.hid (below_thn HB3.out hb)
    clear ho hb x0 x1
    go_wp2_with fail
    go_ret2
    exact ⟨a', sn, c', rfl, rfl, HO.out.base HB3.out.size, HB4.out⟩
  · have HNE := Lib.hid h0
    have hq1 : (q != 0) = true := by simp [h0]
    clear h0
    go_wp2_with fail
    go_ret2
    exact ⟨none, 0, 0, rfl, by rw [if_neg HNE.out], own_nil _ _ _ _ _, HB3.out⟩

end Go.Proofs.Ytijfdfplebbaaab
