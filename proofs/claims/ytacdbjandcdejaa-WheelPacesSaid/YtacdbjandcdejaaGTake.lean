/-
  The contracts of work, take and fits: the map of the wheels that are free.
-/
import Derived.Test.YtacdbjandcdejaaGBase
import Derived.Test.YtacdbjandcdejaaGSet
namespace Go.Proofs.Ytacdbjandcdejaa
open Go.RowKit

theorem SetAt.congr {w : World} {b n : Nat} {S T : Int → Bool} (h : SetAt w b n S) (e : ∀ x, S x = T x) : SetAt w b n T := by rwa [funext e] at h
theorem SetAt.below {w w' : World} {b n : Nat} {S : Int → Bool} (h : SetAt w b n S) (hb : Below w.heap.size w w') : SetAt w' b n S := h.heap (hb.block _ h.lt)
theorem grown_refl (w : World) (r : Option Nat) : w.grownBy w r := ⟨rfl, rfl, rfl, Nat.le_refl _, fun _ _ _ => rfl⟩
theorem grown_trans {w u v : World} {r : Option Nat} (h : w.grownBy u r) (g : u.grownBy v r) : w.grownBy v r :=
  ⟨g.os.trans h.os, g.tape.trans h.tape, g.output.trans h.output, Nat.le_trans h.size g.size, fun k hk hr => (g.block k (Nat.lt_of_lt_of_le hk h.size) hr).trans (h.block k hk hr)⟩
theorem grown_below {w u : World} {r : Option Nat} (h : Below w.heap.size w u) : w.grownBy u r := ⟨h.os, h.tape, h.output, h.size, fun k hk _ => h.block k hk⟩
theorem grown_heap {w u : World} {m i : Nat} {o : Obj} (h : w.grownBy u (some m)) (hi : w.heap[i]? = some o) (hn : i ≠ m) : u.heap[i]? = some o := (h.block i (Array.getElem?_eq_some_iff.1 hi).1 (by simp [hn])).trans hi
section
variable {P : Program} {ops : Array Oper} {Q : Exit → Act → World → Prop}
theorem op_none {k : Nat} {o : Oper} {v : Value} {a : Act} {w w' : World} {K : Act → World → Prop} (ho : ops[k]? = some o) (hd : o.dst = none) (hw : Region.wanted o (yielded ops a.tmps) = true) (hr : (execOp a.eval o).run P w = .ok (.value v) w') (h : K a w') : wpOp P ops Q k K a w := by
  refine wpOp_step ho fun K' hK => ?_
  rw [if_pos hw]
  unfold Oper.wp
  rw [hr, Oper.upon_value, hd]
  exact hK _ _ h
end
theorem exec_delete {o : Oper} {a : Act} {w w' : World} (m x : Operand) (ho : o.op = Op.call { callee := Callee.builtin Builtin.delete, args := #[m, x], argTypes := #[92, 3] }) {vm vx v' : Value} (hm : a.eval m = vm) (hx : a.eval x = vx)
    (hr : (Builtin.delete_ #[92, 3] o.type #[vm, vx]).run Try.prog w = .ok v' w') : (execOp a.eval o).run Try.prog w = .ok (.value v') w' := by
  unfold execOp
  simp only [ho, resolve, invoke, builtin, Sem.run_bind, Sem.run_pure, Result.andThen_ok, List.map_toArray, List.map_cons, List.map_nil, hm, hx, hr]

namespace Pure
/-- A pair's wheels go out of a set, if both are in it and they differ. -/
def both (S : Int → Bool) (x y : Int) : Bool := !(x == y) && (S x && S y)
def less (S : Int → Bool) (x y : Int) : Int → Bool := fun z => (S z && !decide (z = x)) && !decide (z = y)
end Pure

/-- What take leaves. -/
def TakeOut (mp m : Nat) (S : Int → Bool) (x y : Int) (b : Bool) (w : World) (e : Ending) (w' : World) : Prop :=
  e = .returned (.bool b) ∧ w.grownBy w' (some mp) ∧ SetAt w' mp m (if Pure.both S x y then Pure.less S x y else S)
set_option maxHeartbeats 16000000 in
set_option maxRecDepth 100000 in
theorem take_any (B mp m : Nat) (a : Option Addr) (n c : Nat) (S : Int → Bool) (x y : Int) (hx : (Lit.int .i64 x).wf = true) (hy : (Lit.int .i64 y).wf = true) (hne : B ≠ mp) (w : World) (hB : w.heap[B]? = some (shedB a n c mp)) (hS : SetAt w mp m S) :
    Calls Try.prog 51 #[.pointer (some ⟨B, 0, none⟩), pairV x y] w (TakeOut mp m S x y (Pure.both S x y) w) := by
  obtain ⟨W, hW⟩ : ∃ W, w.alloc (pairB x y) = W := ⟨_, rfl⟩
  have HB0 : Hid (Below w.heap.size w W) := Lib.hid (by rw [← hW]; exact below_new _ _)
  have HX : Hid (W.heap[B]? = some (shedB a n c mp) ∧ SetAt W mp m S ∧ W.heap[w.heap.size]? = some (pairB x y)) := Lib.hid ⟨heap_lft hB HB0.out, hS.below HB0.out, by rw [← hW]; exact heap_top _ _ rfl⟩
  have HLT : Hid (mp < w.heap.size ∧ B < w.heap.size) := Lib.hid ⟨hS.lt, (Array.getElem?_eq_some_iff.1 hB).1⟩
  have HW := Lib.hid (And.intro hx hy)
  have HNE := Lib.hid hne
  clear hB hS hx hy hne
  obtain ⟨r0, hr0⟩ : ∃ z, (x == y) = z := ⟨_, rfl⟩
  obtain ⟨r1, hr1⟩ : ∃ z, S x = z := ⟨_, rfl⟩
  obtain ⟨r2, hr2⟩ : ∃ z, S y = z := ⟨_, rfl⟩
  have hbo : Pure.both S x y = (!r0 && (r1 && r2)) := by rw [Pure.both, hr0, hr1, hr2]
  have HBO := Lib.hid hbo
  have HR := Lib.hid (And.intro hr0 (And.intro hr1 hr2))
  clear hr0 hr1 hr2 hbo
  go_enter Try.func51, Try.ntmps51
  go_upto_region 1 with fail
  try rw [hW]
  clear hW
  go_cut [29] from 5 to 28 (fun s wx => s = .bool (r0 || (!r1 || !r2)) ∧ Below W.heap.size W wx)
  case first =>
    rename_i J K' hJ hK'
    generalize hA : (Act.mk _ _ : Act) = a0
    have m0 : At a0 0 (.pointer (some ⟨B, 0, none⟩)) := by rw [← hA]; rfl
    have m3 : At a0 3 (.pointer (some ⟨w.heap.size, 0, none⟩)) := by rw [← hA]; rfl
    have hsz : 29 < a0.tmps.size := by rw [← hA]; exact of_decide_eq_true (by kernel_rfl)
    have hfin : ∀ a' w', Kept (29 :: List.range' 5 24) a0 a' → At a' 29 (.bool (r0 || (!r1 || !r2))) → (Below W.heap.size W w') → K' a' w' := by
      intro a' w' hI hv29 hL
      refine hK' _ _ (Met.intro (hJ _ _ ⟨a'.tmps.getD 5 undef, a'.tmps.getD 6 undef, a'.tmps.getD 7 undef, a'.tmps.getD 8 undef, a'.tmps.getD 9 undef, a'.tmps.getD 10 undef, a'.tmps.getD 11 undef, a'.tmps.getD 12 undef, a'.tmps.getD 13 undef, a'.tmps.getD 14 undef, a'.tmps.getD 15 undef, a'.tmps.getD 16 undef, a'.tmps.getD 17 undef, a'.tmps.getD 18 undef, a'.tmps.getD 19 undef, a'.tmps.getD 20 undef, a'.tmps.getD 21 undef, a'.tmps.getD 22 undef, a'.tmps.getD 23 undef, a'.tmps.getD 24 undef, a'.tmps.getD 25 undef, a'.tmps.getD 26 undef, a'.tmps.getD 27 undef, a'.tmps.getD 28 undef, a'.tmps.getD 29 undef, ⟨by have g := hv29; unfold At at g; rw [Array.getD_eq_getD_getElem?, g]; rfl, hL⟩, hI.eq.trans ?_⟩))
      rw [← hA]
      kernel_rfl
    have hI : Kept (29 :: List.range' 5 24) a0 a0 := Kept.refl _ _
    clear hA hJ hK' J
    refine with_pan (fun d _ _ _ _ h => by cases d <;> exact h) ?_
    intro hpan
    refine wp_region_rest (fun z => z.heap[B]? = some (shedB a n c mp) ∧ SetAt z mp m S ∧ z.heap[w.heap.size]? = some (pairB x y)) (by kernel_rfl) ?_
    obtain ⟨wz, hwz⟩ : ∃ x, W.drew = x := ⟨_, rfl⟩
    change Rest _ _ _ _ _ _ _ (W.drew)
    rw [hwz]
    have hq : Below W.heap.size W wz := by rw [← hwz]; exact (Below.refl _ _).drew
    clear hwz
    have hS := (And.intro (heap_lft HX.out.1 hq) (And.intro (HX.out.2.1.below hq) (heap_lft HX.out.2.2 hq)))
    refine rest_take (k := 0) (d := 5) (v := .pointer (some ⟨w.heap.size, 0, none⟩)) hI rfl rfl (by kernel_rfl) (Nat.lt_of_le_of_lt (by decide) hsz) (by kernel_rfl) hpan (by kernel_rfl) hS (wanted_free rfl) (fun z hz => by have n3 := hI.at m3 (by kernel_rfl); have e3 := n3; have f3 := n3.eval; unfold At at e3; simp [go_sem, e3]) (fun a' hI' n5' hk => ?_)
    have n5 := n5'
    replace hI := hI'
    clear hk hI' n5'
    obtain ⟨act9, rfl⟩ : ∃ x, x = a' := ⟨_, rfl⟩
    refine rest_take (k := 1) (d := 6) (v := .int .i64 x) hI rfl rfl (by kernel_rfl) (Nat.lt_of_le_of_lt (by decide) hsz) (by kernel_rfl) hpan (by kernel_rfl) hS (wanted_free rfl) (fun z hz => by have e5 := n5; have f5 := n5.eval; unfold At at e5; have k0 := heap_cell hz.2.2 (j := 0) rfl; simp [go_sem, e5, k0]) (fun a' hI' n6' hk => ?_)
    replace n5 := hk _ _ n5 rfl
    have n6 := n6'
    replace hI := hI'
    clear hk hI' n6'
    obtain ⟨act9, rfl⟩ : ∃ x, x = a' := ⟨_, rfl⟩
    clear n5
    refine rest_take (k := 2) (d := 7) (v := .pointer (some ⟨w.heap.size, 1, none⟩)) hI rfl rfl (by kernel_rfl) (Nat.lt_of_le_of_lt (by decide) hsz) (by kernel_rfl) hpan (by kernel_rfl) hS (wanted_free rfl) (fun z hz => by have n3 := hI.at m3 (by kernel_rfl); have e3 := n3; have f3 := n3.eval; unfold At at e3; simp [go_sem, e3]) (fun a' hI' n7' hk => ?_)
    replace n6 := hk _ _ n6 rfl
    have n7 := n7'
    replace hI := hI'
    clear hk hI' n7'
    obtain ⟨act9, rfl⟩ : ∃ x, x = a' := ⟨_, rfl⟩
    refine rest_take (k := 3) (d := 8) (v := .int .i64 y) hI rfl rfl (by kernel_rfl) (Nat.lt_of_le_of_lt (by decide) hsz) (by kernel_rfl) hpan (by kernel_rfl) hS (wanted_free rfl) (fun z hz => by have e7 := n7; have f7 := n7.eval; unfold At at e7; have k0 := heap_cell hz.2.2 (j := 1) rfl; simp [go_sem, e7, k0]) (fun a' hI' n8' hk => ?_)
    replace n6 := hk _ _ n6 rfl
    replace n7 := hk _ _ n7 rfl
    have n8 := n8'
    replace hI := hI'
    clear hk hI' n8'
    obtain ⟨act9, rfl⟩ : ∃ x, x = a' := ⟨_, rfl⟩
    clear n7
    refine rest_take (k := 4) (d := 9) (v := .bool r0) hI rfl rfl (by kernel_rfl) (Nat.lt_of_le_of_lt (by decide) hsz) (by kernel_rfl) hpan (by kernel_rfl) hS (wanted_free rfl) (fun z hz => by have e6 := n6; have f6 := n6.eval; unfold At at e6; have e8 := n8; have f8 := n8.eval; unfold At at e8; have k1 := HR.out.1; simp [go_sem, e6, e8, k1]) (fun a' hI' n9' hk => ?_)
    replace n6 := hk _ _ n6 rfl
    replace n8 := hk _ _ n8 rfl
    have n9 := n9'
    replace hI := hI'
    clear hk hI' n9'
    obtain ⟨act9, rfl⟩ : ∃ x, x = a' := ⟨_, rfl⟩
    clear n6
    clear n8
    cases r0
    · refine rest_take (k := 5) (d := 10) (v := .bool false) hI rfl rfl (by kernel_rfl) (Nat.lt_of_le_of_lt (by decide) hsz) (by kernel_rfl) hpan (by kernel_rfl) hS (wanted_free rfl) (fun z hz => by have e9 := n9; have f9 := n9.eval; unfold At at e9; simp [go_sem, e9]) (fun a' hI' n10' hk => ?_)
      replace n9 := hk _ _ n9 rfl
      have n10 := n10'
      replace hI := hI'
      clear hk hI' n10'
      obtain ⟨act9, rfl⟩ : ∃ x, x = a' := ⟨_, rfl⟩
      clear n9
      refine rest_take (k := 6) (d := 11) (v := .pointer (some ⟨B, 0, none⟩)) hI rfl rfl (by kernel_rfl) (Nat.lt_of_le_of_lt (by decide) hsz) (by kernel_rfl) hpan (by kernel_rfl) hS (wanted_at rfl rfl (n10)) (fun z hz => by have n0 := hI.at m0 (by kernel_rfl); have e0 := n0; have f0 := n0.eval; unfold At at e0; simp [go_sem, e0]) (fun a' hI' n11' hk => ?_)
      replace n10 := hk _ _ n10 rfl
      have n11 := n11'
      replace hI := hI'
      clear hk hI' n11'
      obtain ⟨act9, rfl⟩ : ∃ x, x = a' := ⟨_, rfl⟩
      refine rest_take (k := 7) (d := 12) (v := .pointer (some ⟨B, 0, none⟩)) hI rfl rfl (by kernel_rfl) (Nat.lt_of_le_of_lt (by decide) hsz) (by kernel_rfl) hpan (by kernel_rfl) hS (wanted_at rfl rfl (n10)) (fun z hz => by have e11 := n11; have f11 := n11.eval; unfold At at e11; simp [go_sem, e11]) (fun a' hI' n12' hk => ?_)
      replace n10 := hk _ _ n10 rfl
      replace n11 := hk _ _ n11 rfl
      have n12 := n12'
      replace hI := hI'
      clear hk hI' n12'
      obtain ⟨act9, rfl⟩ : ∃ x, x = a' := ⟨_, rfl⟩
      clear n11
      refine rest_take (k := 8) (d := 13) (v := .pointer (some ⟨B, 1, none⟩)) hI rfl rfl (by kernel_rfl) (Nat.lt_of_le_of_lt (by decide) hsz) (by kernel_rfl) hpan (by kernel_rfl) hS (wanted_at rfl rfl (n10)) (fun z hz => by have e12 := n12; have f12 := n12.eval; unfold At at e12; simp [go_sem, e12]) (fun a' hI' n13' hk => ?_)
      replace n10 := hk _ _ n10 rfl
      replace n12 := hk _ _ n12 rfl
      have n13 := n13'
      replace hI := hI'
      clear hk hI' n13'
      obtain ⟨act9, rfl⟩ : ∃ x, x = a' := ⟨_, rfl⟩
      clear n12
      refine rest_take (k := 9) (d := 14) (v := .map (some mp)) hI rfl rfl (by kernel_rfl) (Nat.lt_of_le_of_lt (by decide) hsz) (by kernel_rfl) hpan (by kernel_rfl) hS (wanted_at rfl rfl (n10)) (fun z hz => by have e13 := n13; have f13 := n13.eval; unfold At at e13; have k0 := heap_cell hz.1 (j := 1) rfl; simp [go_sem, e13, k0]) (fun a' hI' n14' hk => ?_)
      replace n10 := hk _ _ n10 rfl
      replace n13 := hk _ _ n13 rfl
      have n14 := n14'
      replace hI := hI'
      clear hk hI' n14'
      obtain ⟨act9, rfl⟩ : ∃ x, x = a' := ⟨_, rfl⟩
      clear n13
      refine rest_take (k := 10) (d := 15) (v := .pointer (some ⟨w.heap.size, 0, none⟩)) hI rfl rfl (by kernel_rfl) (Nat.lt_of_le_of_lt (by decide) hsz) (by kernel_rfl) hpan (by kernel_rfl) hS (wanted_at rfl rfl (n10)) (fun z hz => by have n3 := hI.at m3 (by kernel_rfl); have e3 := n3; have f3 := n3.eval; unfold At at e3; simp [go_sem, e3]) (fun a' hI' n15' hk => ?_)
      replace n10 := hk _ _ n10 rfl
      replace n14 := hk _ _ n14 rfl
      have n15 := n15'
      replace hI := hI'
      clear hk hI' n15'
      obtain ⟨act9, rfl⟩ : ∃ x, x = a' := ⟨_, rfl⟩
      refine rest_take (k := 11) (d := 16) (v := .int .i64 x) hI rfl rfl (by kernel_rfl) (Nat.lt_of_le_of_lt (by decide) hsz) (by kernel_rfl) hpan (by kernel_rfl) hS (wanted_at rfl rfl (n10)) (fun z hz => by have e15 := n15; have f15 := n15.eval; unfold At at e15; have k0 := heap_cell hz.2.2 (j := 0) rfl; simp [go_sem, e15, k0]) (fun a' hI' n16' hk => ?_)
      replace n10 := hk _ _ n10 rfl
      replace n14 := hk _ _ n14 rfl
      replace n15 := hk _ _ n15 rfl
      have n16 := n16'
      replace hI := hI'
      clear hk hI' n16'
      obtain ⟨act9, rfl⟩ : ∃ x, x = a' := ⟨_, rfl⟩
      clear n15
      refine rest_take (k := 12) (d := 17) (v := .bool r1) hI rfl rfl (by kernel_rfl) (Nat.lt_of_le_of_lt (by decide) hsz) (by kernel_rfl) hpan (by kernel_rfl) hS (wanted_at rfl rfl (n10)) (fun z hz => by have e14 := n14; have f14 := n14.eval; unfold At at e14; have e16 := n16; have f16 := n16.eval; unfold At at e16; have k1 := hz.2.1.look HW.out.1; rw [HR.out.2.1] at k1; simp [go_sem, e14, e16, k1]) (fun a' hI' n17' hk => ?_)
      replace n10 := hk _ _ n10 rfl
      replace n14 := hk _ _ n14 rfl
      replace n16 := hk _ _ n16 rfl
      have n17 := n17'
      replace hI := hI'
      clear hk hI' n17'
      obtain ⟨act9, rfl⟩ : ∃ x, x = a' := ⟨_, rfl⟩
      clear n14
      clear n16
      cases r1
      · refine rest_take (k := 13) (d := 18) (v := .bool true) hI rfl rfl (by kernel_rfl) (Nat.lt_of_le_of_lt (by decide) hsz) (by kernel_rfl) hpan (by kernel_rfl) hS (wanted_at rfl rfl (n10)) (fun z hz => by have e17 := n17; have f17 := n17.eval; unfold At at e17; simp [go_sem, e17]) (fun a' hI' n18' hk => ?_)
        replace n10 := hk _ _ n10 rfl
        replace n17 := hk _ _ n17 rfl
        have n18 := n18'
        replace hI := hI'
        clear hk hI' n18'
        obtain ⟨act9, rfl⟩ : ∃ x, x = a' := ⟨_, rfl⟩
        refine rest_take (k := 14) (d := 19) (v := .bool true) hI rfl rfl (by kernel_rfl) (Nat.lt_of_le_of_lt (by decide) hsz) (by kernel_rfl) hpan (by kernel_rfl) hS (wanted_free rfl) (fun z hz => by have e10 := n10; have f10 := n10.eval; unfold At at e10; have e18 := n18; have f18 := n18.eval; unfold At at e18; simp [go_sem, e10, e18]) (fun a' hI' n19' hk => ?_)
        replace n10 := hk _ _ n10 rfl
        replace n17 := hk _ _ n17 rfl
        replace n18 := hk _ _ n18 rfl
        have n19 := n19'
        replace hI := hI'
        clear hk hI' n19'
        obtain ⟨act9, rfl⟩ : ∃ x, x = a' := ⟨_, rfl⟩
        refine rest_take (k := 15) (d := 20) (v := .bool true) hI rfl rfl (by kernel_rfl) (Nat.lt_of_le_of_lt (by decide) hsz) (by kernel_rfl) hpan (by kernel_rfl) hS (wanted_free rfl) (fun z hz => by have e19 := n19; have f19 := n19.eval; unfold At at e19; simp [go_sem, e19]) (fun a' hI' n20' hk => ?_)
        replace n10 := hk _ _ n10 rfl
        replace n17 := hk _ _ n17 rfl
        replace n18 := hk _ _ n18 rfl
        replace n19 := hk _ _ n19 rfl
        have n20 := n20'
        replace hI := hI'
        clear hk hI' n20'
        obtain ⟨act9, rfl⟩ : ∃ x, x = a' := ⟨_, rfl⟩
        refine rest_skip (k := 16) (d := 21) hI rfl rfl (by kernel_rfl) (Nat.lt_of_le_of_lt (by decide) hsz) (by kernel_rfl) hpan (by kernel_rfl) hS (unwanted_at rfl rfl n20 rfl) (fun a' hI' n21' hk => ?_)
        replace n10 := hk _ _ n10 rfl
        replace n17 := hk _ _ n17 rfl
        replace n18 := hk _ _ n18 rfl
        replace n19 := hk _ _ n19 rfl
        replace n20 := hk _ _ n20 rfl
        have n21 := n21'
        replace hI := hI'
        clear hk hI' n21'
        obtain ⟨act9, rfl⟩ : ∃ x, x = a' := ⟨_, rfl⟩
        refine rest_skip (k := 17) (d := 22) hI rfl rfl (by kernel_rfl) (Nat.lt_of_le_of_lt (by decide) hsz) (by kernel_rfl) hpan (by kernel_rfl) hS (unwanted_at rfl rfl n20 rfl) (fun a' hI' n22' hk => ?_)
        replace n10 := hk _ _ n10 rfl
        replace n17 := hk _ _ n17 rfl
        replace n18 := hk _ _ n18 rfl
        replace n19 := hk _ _ n19 rfl
        replace n20 := hk _ _ n20 rfl
        replace n21 := hk _ _ n21 rfl
        have n22 := n22'
        replace hI := hI'
        clear hk hI' n22'
        obtain ⟨act9, rfl⟩ : ∃ x, x = a' := ⟨_, rfl⟩
        refine rest_skip (k := 18) (d := 23) hI rfl rfl (by kernel_rfl) (Nat.lt_of_le_of_lt (by decide) hsz) (by kernel_rfl) hpan (by kernel_rfl) hS (unwanted_at rfl rfl n20 rfl) (fun a' hI' n23' hk => ?_)
        replace n10 := hk _ _ n10 rfl
        replace n17 := hk _ _ n17 rfl
        replace n18 := hk _ _ n18 rfl
        replace n19 := hk _ _ n19 rfl
        replace n20 := hk _ _ n20 rfl
        replace n21 := hk _ _ n21 rfl
        replace n22 := hk _ _ n22 rfl
        have n23 := n23'
        replace hI := hI'
        clear hk hI' n23'
        obtain ⟨act9, rfl⟩ : ∃ x, x = a' := ⟨_, rfl⟩
        refine rest_skip (k := 19) (d := 24) hI rfl rfl (by kernel_rfl) (Nat.lt_of_le_of_lt (by decide) hsz) (by kernel_rfl) hpan (by kernel_rfl) hS (unwanted_at rfl rfl n20 rfl) (fun a' hI' n24' hk => ?_)
        replace n10 := hk _ _ n10 rfl
        replace n17 := hk _ _ n17 rfl
        replace n18 := hk _ _ n18 rfl
        replace n19 := hk _ _ n19 rfl
        replace n20 := hk _ _ n20 rfl
        replace n21 := hk _ _ n21 rfl
        replace n22 := hk _ _ n22 rfl
        replace n23 := hk _ _ n23 rfl
        have n24 := n24'
        replace hI := hI'
        clear hk hI' n24'
        obtain ⟨act9, rfl⟩ : ∃ x, x = a' := ⟨_, rfl⟩
        refine rest_skip (k := 20) (d := 25) hI rfl rfl (by kernel_rfl) (Nat.lt_of_le_of_lt (by decide) hsz) (by kernel_rfl) hpan (by kernel_rfl) hS (unwanted_at rfl rfl n20 rfl) (fun a' hI' n25' hk => ?_)
        replace n10 := hk _ _ n10 rfl
        replace n17 := hk _ _ n17 rfl
        replace n18 := hk _ _ n18 rfl
        replace n19 := hk _ _ n19 rfl
        replace n20 := hk _ _ n20 rfl
        replace n21 := hk _ _ n21 rfl
        replace n22 := hk _ _ n22 rfl
        replace n23 := hk _ _ n23 rfl
        replace n24 := hk _ _ n24 rfl
        have n25 := n25'
        replace hI := hI'
        clear hk hI' n25'
        obtain ⟨act9, rfl⟩ : ∃ x, x = a' := ⟨_, rfl⟩
        refine rest_skip (k := 21) (d := 26) hI rfl rfl (by kernel_rfl) (Nat.lt_of_le_of_lt (by decide) hsz) (by kernel_rfl) hpan (by kernel_rfl) hS (unwanted_at rfl rfl n20 rfl) (fun a' hI' n26' hk => ?_)
        replace n10 := hk _ _ n10 rfl
        replace n17 := hk _ _ n17 rfl
        replace n18 := hk _ _ n18 rfl
        replace n19 := hk _ _ n19 rfl
        replace n20 := hk _ _ n20 rfl
        replace n21 := hk _ _ n21 rfl
        replace n22 := hk _ _ n22 rfl
        replace n23 := hk _ _ n23 rfl
        replace n24 := hk _ _ n24 rfl
        replace n25 := hk _ _ n25 rfl
        have n26 := n26'
        replace hI := hI'
        clear hk hI' n26'
        obtain ⟨act9, rfl⟩ : ∃ x, x = a' := ⟨_, rfl⟩
        refine rest_skip (k := 22) (d := 27) hI rfl rfl (by kernel_rfl) (Nat.lt_of_le_of_lt (by decide) hsz) (by kernel_rfl) hpan (by kernel_rfl) hS (unwanted_at rfl rfl n20 rfl) (fun a' hI' n27' hk => ?_)
        replace n10 := hk _ _ n10 rfl
        replace n17 := hk _ _ n17 rfl
        replace n18 := hk _ _ n18 rfl
        replace n19 := hk _ _ n19 rfl
        replace n20 := hk _ _ n20 rfl
        replace n21 := hk _ _ n21 rfl
        replace n22 := hk _ _ n22 rfl
        replace n23 := hk _ _ n23 rfl
        replace n24 := hk _ _ n24 rfl
        replace n25 := hk _ _ n25 rfl
        replace n26 := hk _ _ n26 rfl
        have n27 := n27'
        replace hI := hI'
        clear hk hI' n27'
        obtain ⟨act9, rfl⟩ : ∃ x, x = a' := ⟨_, rfl⟩
        refine rest_skip (k := 23) (d := 28) hI rfl rfl (by kernel_rfl) (Nat.lt_of_le_of_lt (by decide) hsz) (by kernel_rfl) hpan (by kernel_rfl) hS (unwanted_at rfl rfl n20 rfl) (fun a' hI' n28' hk => ?_)
        replace n10 := hk _ _ n10 rfl
        replace n17 := hk _ _ n17 rfl
        replace n18 := hk _ _ n18 rfl
        replace n19 := hk _ _ n19 rfl
        replace n20 := hk _ _ n20 rfl
        replace n21 := hk _ _ n21 rfl
        replace n22 := hk _ _ n22 rfl
        replace n23 := hk _ _ n23 rfl
        replace n24 := hk _ _ n24 rfl
        replace n25 := hk _ _ n25 rfl
        replace n26 := hk _ _ n26 rfl
        replace n27 := hk _ _ n27 rfl
        have n28 := n28'
        replace hI := hI'
        clear hk hI' n28'
        obtain ⟨act9, rfl⟩ : ∃ x, x = a' := ⟨_, rfl⟩
        refine rest_take (k := 24) (d := 29) (v := .bool true) hI rfl rfl (by kernel_rfl) (Nat.lt_of_le_of_lt (by decide) hsz) (by kernel_rfl) hpan (by kernel_rfl) hS (wanted_free rfl) (fun z hz => by have e20 := n20; have f20 := n20.eval; unfold At at e20; simp [go_sem, e20]) (fun a' hI' n29' hk => ?_)
        replace n10 := hk _ _ n10 rfl
        replace n17 := hk _ _ n17 rfl
        replace n18 := hk _ _ n18 rfl
        replace n19 := hk _ _ n19 rfl
        replace n20 := hk _ _ n20 rfl
        replace n21 := hk _ _ n21 rfl
        replace n22 := hk _ _ n22 rfl
        replace n23 := hk _ _ n23 rfl
        replace n24 := hk _ _ n24 rfl
        replace n25 := hk _ _ n25 rfl
        replace n26 := hk _ _ n26 rfl
        replace n27 := hk _ _ n27 rfl
        replace n28 := hk _ _ n28 rfl
        have n29 := n29'
        replace hI := hI'
        clear hk hI' n29'
        obtain ⟨act9, rfl⟩ : ∃ x, x = a' := ⟨_, rfl⟩
        refine rest_done (by kernel_rfl) ?_
        exact hfin _ _ hI n29 hq
      · refine rest_take (k := 13) (d := 18) (v := .bool false) hI rfl rfl (by kernel_rfl) (Nat.lt_of_le_of_lt (by decide) hsz) (by kernel_rfl) hpan (by kernel_rfl) hS (wanted_at rfl rfl (n10)) (fun z hz => by have e17 := n17; have f17 := n17.eval; unfold At at e17; simp [go_sem, e17]) (fun a' hI' n18' hk => ?_)
        replace n10 := hk _ _ n10 rfl
        replace n17 := hk _ _ n17 rfl
        have n18 := n18'
        replace hI := hI'
        clear hk hI' n18'
        obtain ⟨act9, rfl⟩ : ∃ x, x = a' := ⟨_, rfl⟩
        refine rest_take (k := 14) (d := 19) (v := .bool false) hI rfl rfl (by kernel_rfl) (Nat.lt_of_le_of_lt (by decide) hsz) (by kernel_rfl) hpan (by kernel_rfl) hS (wanted_free rfl) (fun z hz => by have e10 := n10; have f10 := n10.eval; unfold At at e10; have e18 := n18; have f18 := n18.eval; unfold At at e18; simp [go_sem, e10, e18]) (fun a' hI' n19' hk => ?_)
        replace n10 := hk _ _ n10 rfl
        replace n17 := hk _ _ n17 rfl
        replace n18 := hk _ _ n18 rfl
        have n19 := n19'
        replace hI := hI'
        clear hk hI' n19'
        obtain ⟨act9, rfl⟩ : ∃ x, x = a' := ⟨_, rfl⟩
        refine rest_take (k := 15) (d := 20) (v := .bool false) hI rfl rfl (by kernel_rfl) (Nat.lt_of_le_of_lt (by decide) hsz) (by kernel_rfl) hpan (by kernel_rfl) hS (wanted_free rfl) (fun z hz => by have e19 := n19; have f19 := n19.eval; unfold At at e19; simp [go_sem, e19]) (fun a' hI' n20' hk => ?_)
        replace n10 := hk _ _ n10 rfl
        replace n17 := hk _ _ n17 rfl
        replace n18 := hk _ _ n18 rfl
        replace n19 := hk _ _ n19 rfl
        have n20 := n20'
        replace hI := hI'
        clear hk hI' n20'
        obtain ⟨act9, rfl⟩ : ∃ x, x = a' := ⟨_, rfl⟩
        clear n17
        clear n18
        clear n19
        refine rest_take (k := 16) (d := 21) (v := .pointer (some ⟨B, 0, none⟩)) hI rfl rfl (by kernel_rfl) (Nat.lt_of_le_of_lt (by decide) hsz) (by kernel_rfl) hpan (by kernel_rfl) hS (wanted_at rfl rfl (n20)) (fun z hz => by have n0 := hI.at m0 (by kernel_rfl); have e0 := n0; have f0 := n0.eval; unfold At at e0; simp [go_sem, e0]) (fun a' hI' n21' hk => ?_)
        replace n10 := hk _ _ n10 rfl
        replace n20 := hk _ _ n20 rfl
        have n21 := n21'
        replace hI := hI'
        clear hk hI' n21'
        obtain ⟨act9, rfl⟩ : ∃ x, x = a' := ⟨_, rfl⟩
        refine rest_take (k := 17) (d := 22) (v := .pointer (some ⟨B, 0, none⟩)) hI rfl rfl (by kernel_rfl) (Nat.lt_of_le_of_lt (by decide) hsz) (by kernel_rfl) hpan (by kernel_rfl) hS (wanted_at rfl rfl (n20)) (fun z hz => by have e21 := n21; have f21 := n21.eval; unfold At at e21; simp [go_sem, e21]) (fun a' hI' n22' hk => ?_)
        replace n10 := hk _ _ n10 rfl
        replace n20 := hk _ _ n20 rfl
        replace n21 := hk _ _ n21 rfl
        have n22 := n22'
        replace hI := hI'
        clear hk hI' n22'
        obtain ⟨act9, rfl⟩ : ∃ x, x = a' := ⟨_, rfl⟩
        clear n21
        refine rest_take (k := 18) (d := 23) (v := .pointer (some ⟨B, 1, none⟩)) hI rfl rfl (by kernel_rfl) (Nat.lt_of_le_of_lt (by decide) hsz) (by kernel_rfl) hpan (by kernel_rfl) hS (wanted_at rfl rfl (n20)) (fun z hz => by have e22 := n22; have f22 := n22.eval; unfold At at e22; simp [go_sem, e22]) (fun a' hI' n23' hk => ?_)
        replace n10 := hk _ _ n10 rfl
        replace n20 := hk _ _ n20 rfl
        replace n22 := hk _ _ n22 rfl
        have n23 := n23'
        replace hI := hI'
        clear hk hI' n23'
        obtain ⟨act9, rfl⟩ : ∃ x, x = a' := ⟨_, rfl⟩
        clear n22
        refine rest_take (k := 19) (d := 24) (v := .map (some mp)) hI rfl rfl (by kernel_rfl) (Nat.lt_of_le_of_lt (by decide) hsz) (by kernel_rfl) hpan (by kernel_rfl) hS (wanted_at rfl rfl (n20)) (fun z hz => by have e23 := n23; have f23 := n23.eval; unfold At at e23; have k0 := heap_cell hz.1 (j := 1) rfl; simp [go_sem, e23, k0]) (fun a' hI' n24' hk => ?_)
        replace n10 := hk _ _ n10 rfl
        replace n20 := hk _ _ n20 rfl
        replace n23 := hk _ _ n23 rfl
        have n24 := n24'
        replace hI := hI'
        clear hk hI' n24'
        obtain ⟨act9, rfl⟩ : ∃ x, x = a' := ⟨_, rfl⟩
        clear n23
        refine rest_take (k := 20) (d := 25) (v := .pointer (some ⟨w.heap.size, 1, none⟩)) hI rfl rfl (by kernel_rfl) (Nat.lt_of_le_of_lt (by decide) hsz) (by kernel_rfl) hpan (by kernel_rfl) hS (wanted_at rfl rfl (n20)) (fun z hz => by have n3 := hI.at m3 (by kernel_rfl); have e3 := n3; have f3 := n3.eval; unfold At at e3; simp [go_sem, e3]) (fun a' hI' n25' hk => ?_)
        replace n10 := hk _ _ n10 rfl
        replace n20 := hk _ _ n20 rfl
        replace n24 := hk _ _ n24 rfl
        have n25 := n25'
        replace hI := hI'
        clear hk hI' n25'
        obtain ⟨act9, rfl⟩ : ∃ x, x = a' := ⟨_, rfl⟩
        refine rest_take (k := 21) (d := 26) (v := .int .i64 y) hI rfl rfl (by kernel_rfl) (Nat.lt_of_le_of_lt (by decide) hsz) (by kernel_rfl) hpan (by kernel_rfl) hS (wanted_at rfl rfl (n20)) (fun z hz => by have e25 := n25; have f25 := n25.eval; unfold At at e25; have k0 := heap_cell hz.2.2 (j := 1) rfl; simp [go_sem, e25, k0]) (fun a' hI' n26' hk => ?_)
        replace n10 := hk _ _ n10 rfl
        replace n20 := hk _ _ n20 rfl
        replace n24 := hk _ _ n24 rfl
        replace n25 := hk _ _ n25 rfl
        have n26 := n26'
        replace hI := hI'
        clear hk hI' n26'
        obtain ⟨act9, rfl⟩ : ∃ x, x = a' := ⟨_, rfl⟩
        clear n25
        refine rest_take (k := 22) (d := 27) (v := .bool r2) hI rfl rfl (by kernel_rfl) (Nat.lt_of_le_of_lt (by decide) hsz) (by kernel_rfl) hpan (by kernel_rfl) hS (wanted_at rfl rfl (n20)) (fun z hz => by have e24 := n24; have f24 := n24.eval; unfold At at e24; have e26 := n26; have f26 := n26.eval; unfold At at e26; have k1 := hz.2.1.look HW.out.2; rw [HR.out.2.2] at k1; simp [go_sem, e24, e26, k1]) (fun a' hI' n27' hk => ?_)
        replace n10 := hk _ _ n10 rfl
        replace n20 := hk _ _ n20 rfl
        replace n24 := hk _ _ n24 rfl
        replace n26 := hk _ _ n26 rfl
        have n27 := n27'
        replace hI := hI'
        clear hk hI' n27'
        obtain ⟨act9, rfl⟩ : ∃ x, x = a' := ⟨_, rfl⟩
        clear n24
        clear n26
        cases r2
        · refine rest_take (k := 23) (d := 28) (v := .bool true) hI rfl rfl (by kernel_rfl) (Nat.lt_of_le_of_lt (by decide) hsz) (by kernel_rfl) hpan (by kernel_rfl) hS (wanted_at rfl rfl (n20)) (fun z hz => by have e27 := n27; have f27 := n27.eval; unfold At at e27; simp [go_sem, e27]) (fun a' hI' n28' hk => ?_)
          replace n10 := hk _ _ n10 rfl
          replace n20 := hk _ _ n20 rfl
          replace n27 := hk _ _ n27 rfl
          have n28 := n28'
          replace hI := hI'
          clear hk hI' n28'
          obtain ⟨act9, rfl⟩ : ∃ x, x = a' := ⟨_, rfl⟩
          refine rest_take (k := 24) (d := 29) (v := .bool true) hI rfl rfl (by kernel_rfl) (Nat.lt_of_le_of_lt (by decide) hsz) (by kernel_rfl) hpan (by kernel_rfl) hS (wanted_free rfl) (fun z hz => by have e20 := n20; have f20 := n20.eval; unfold At at e20; have e28 := n28; have f28 := n28.eval; unfold At at e28; simp [go_sem, e20, e28]) (fun a' hI' n29' hk => ?_)
          replace n10 := hk _ _ n10 rfl
          replace n20 := hk _ _ n20 rfl
          replace n27 := hk _ _ n27 rfl
          replace n28 := hk _ _ n28 rfl
          have n29 := n29'
          replace hI := hI'
          clear hk hI' n29'
          obtain ⟨act9, rfl⟩ : ∃ x, x = a' := ⟨_, rfl⟩
          refine rest_done (by kernel_rfl) ?_
          exact hfin _ _ hI n29 hq
        · refine rest_take (k := 23) (d := 28) (v := .bool false) hI rfl rfl (by kernel_rfl) (Nat.lt_of_le_of_lt (by decide) hsz) (by kernel_rfl) hpan (by kernel_rfl) hS (wanted_at rfl rfl (n20)) (fun z hz => by have e27 := n27; have f27 := n27.eval; unfold At at e27; simp [go_sem, e27]) (fun a' hI' n28' hk => ?_)
          replace n10 := hk _ _ n10 rfl
          replace n20 := hk _ _ n20 rfl
          replace n27 := hk _ _ n27 rfl
          have n28 := n28'
          replace hI := hI'
          clear hk hI' n28'
          obtain ⟨act9, rfl⟩ : ∃ x, x = a' := ⟨_, rfl⟩
          refine rest_take (k := 24) (d := 29) (v := .bool false) hI rfl rfl (by kernel_rfl) (Nat.lt_of_le_of_lt (by decide) hsz) (by kernel_rfl) hpan (by kernel_rfl) hS (wanted_free rfl) (fun z hz => by have e20 := n20; have f20 := n20.eval; unfold At at e20; have e28 := n28; have f28 := n28.eval; unfold At at e28; simp [go_sem, e20, e28]) (fun a' hI' n29' hk => ?_)
          replace n10 := hk _ _ n10 rfl
          replace n20 := hk _ _ n20 rfl
          replace n27 := hk _ _ n27 rfl
          replace n28 := hk _ _ n28 rfl
          have n29 := n29'
          replace hI := hI'
          clear hk hI' n29'
          obtain ⟨act9, rfl⟩ : ∃ x, x = a' := ⟨_, rfl⟩
          refine rest_done (by kernel_rfl) ?_
          exact hfin _ _ hI n29 hq
    · refine rest_take (k := 5) (d := 10) (v := .bool true) hI rfl rfl (by kernel_rfl) (Nat.lt_of_le_of_lt (by decide) hsz) (by kernel_rfl) hpan (by kernel_rfl) hS (wanted_free rfl) (fun z hz => by have e9 := n9; have f9 := n9.eval; unfold At at e9; simp [go_sem, e9]) (fun a' hI' n10' hk => ?_)
      replace n9 := hk _ _ n9 rfl
      have n10 := n10'
      replace hI := hI'
      clear hk hI' n10'
      obtain ⟨act9, rfl⟩ : ∃ x, x = a' := ⟨_, rfl⟩
      refine rest_skip (k := 6) (d := 11) hI rfl rfl (by kernel_rfl) (Nat.lt_of_le_of_lt (by decide) hsz) (by kernel_rfl) hpan (by kernel_rfl) hS (unwanted_at rfl rfl n10 rfl) (fun a' hI' n11' hk => ?_)
      replace n9 := hk _ _ n9 rfl
      replace n10 := hk _ _ n10 rfl
      have n11 := n11'
      replace hI := hI'
      clear hk hI' n11'
      obtain ⟨act9, rfl⟩ : ∃ x, x = a' := ⟨_, rfl⟩
      refine rest_skip (k := 7) (d := 12) hI rfl rfl (by kernel_rfl) (Nat.lt_of_le_of_lt (by decide) hsz) (by kernel_rfl) hpan (by kernel_rfl) hS (unwanted_at rfl rfl n10 rfl) (fun a' hI' n12' hk => ?_)
      replace n9 := hk _ _ n9 rfl
      replace n10 := hk _ _ n10 rfl
      replace n11 := hk _ _ n11 rfl
      have n12 := n12'
      replace hI := hI'
      clear hk hI' n12'
      obtain ⟨act9, rfl⟩ : ∃ x, x = a' := ⟨_, rfl⟩
      refine rest_skip (k := 8) (d := 13) hI rfl rfl (by kernel_rfl) (Nat.lt_of_le_of_lt (by decide) hsz) (by kernel_rfl) hpan (by kernel_rfl) hS (unwanted_at rfl rfl n10 rfl) (fun a' hI' n13' hk => ?_)
      replace n9 := hk _ _ n9 rfl
      replace n10 := hk _ _ n10 rfl
      replace n11 := hk _ _ n11 rfl
      replace n12 := hk _ _ n12 rfl
      have n13 := n13'
      replace hI := hI'
      clear hk hI' n13'
      obtain ⟨act9, rfl⟩ : ∃ x, x = a' := ⟨_, rfl⟩
      refine rest_skip (k := 9) (d := 14) hI rfl rfl (by kernel_rfl) (Nat.lt_of_le_of_lt (by decide) hsz) (by kernel_rfl) hpan (by kernel_rfl) hS (unwanted_at rfl rfl n10 rfl) (fun a' hI' n14' hk => ?_)
      replace n9 := hk _ _ n9 rfl
      replace n10 := hk _ _ n10 rfl
      replace n11 := hk _ _ n11 rfl
      replace n12 := hk _ _ n12 rfl
      replace n13 := hk _ _ n13 rfl
      have n14 := n14'
      replace hI := hI'
      clear hk hI' n14'
      obtain ⟨act9, rfl⟩ : ∃ x, x = a' := ⟨_, rfl⟩
      refine rest_skip (k := 10) (d := 15) hI rfl rfl (by kernel_rfl) (Nat.lt_of_le_of_lt (by decide) hsz) (by kernel_rfl) hpan (by kernel_rfl) hS (unwanted_at rfl rfl n10 rfl) (fun a' hI' n15' hk => ?_)
      replace n9 := hk _ _ n9 rfl
      replace n10 := hk _ _ n10 rfl
      replace n11 := hk _ _ n11 rfl
      replace n12 := hk _ _ n12 rfl
      replace n13 := hk _ _ n13 rfl
      replace n14 := hk _ _ n14 rfl
      have n15 := n15'
      replace hI := hI'
      clear hk hI' n15'
      obtain ⟨act9, rfl⟩ : ∃ x, x = a' := ⟨_, rfl⟩
      refine rest_skip (k := 11) (d := 16) hI rfl rfl (by kernel_rfl) (Nat.lt_of_le_of_lt (by decide) hsz) (by kernel_rfl) hpan (by kernel_rfl) hS (unwanted_at rfl rfl n10 rfl) (fun a' hI' n16' hk => ?_)
      replace n9 := hk _ _ n9 rfl
      replace n10 := hk _ _ n10 rfl
      replace n11 := hk _ _ n11 rfl
      replace n12 := hk _ _ n12 rfl
      replace n13 := hk _ _ n13 rfl
      replace n14 := hk _ _ n14 rfl
      replace n15 := hk _ _ n15 rfl
      have n16 := n16'
      replace hI := hI'
      clear hk hI' n16'
      obtain ⟨act9, rfl⟩ : ∃ x, x = a' := ⟨_, rfl⟩
      refine rest_skip (k := 12) (d := 17) hI rfl rfl (by kernel_rfl) (Nat.lt_of_le_of_lt (by decide) hsz) (by kernel_rfl) hpan (by kernel_rfl) hS (unwanted_at rfl rfl n10 rfl) (fun a' hI' n17' hk => ?_)
      replace n9 := hk _ _ n9 rfl
      replace n10 := hk _ _ n10 rfl
      replace n11 := hk _ _ n11 rfl
      replace n12 := hk _ _ n12 rfl
      replace n13 := hk _ _ n13 rfl
      replace n14 := hk _ _ n14 rfl
      replace n15 := hk _ _ n15 rfl
      replace n16 := hk _ _ n16 rfl
      have n17 := n17'
      replace hI := hI'
      clear hk hI' n17'
      obtain ⟨act9, rfl⟩ : ∃ x, x = a' := ⟨_, rfl⟩
      refine rest_skip (k := 13) (d := 18) hI rfl rfl (by kernel_rfl) (Nat.lt_of_le_of_lt (by decide) hsz) (by kernel_rfl) hpan (by kernel_rfl) hS (unwanted_at rfl rfl n10 rfl) (fun a' hI' n18' hk => ?_)
      replace n9 := hk _ _ n9 rfl
      replace n10 := hk _ _ n10 rfl
      replace n11 := hk _ _ n11 rfl
      replace n12 := hk _ _ n12 rfl
      replace n13 := hk _ _ n13 rfl
      replace n14 := hk _ _ n14 rfl
      replace n15 := hk _ _ n15 rfl
      replace n16 := hk _ _ n16 rfl
      replace n17 := hk _ _ n17 rfl
      have n18 := n18'
      replace hI := hI'
      clear hk hI' n18'
      obtain ⟨act9, rfl⟩ : ∃ x, x = a' := ⟨_, rfl⟩
      refine rest_take (k := 14) (d := 19) (v := .bool true) hI rfl rfl (by kernel_rfl) (Nat.lt_of_le_of_lt (by decide) hsz) (by kernel_rfl) hpan (by kernel_rfl) hS (wanted_free rfl) (fun z hz => by have e10 := n10; have f10 := n10.eval; unfold At at e10; simp [go_sem, e10]) (fun a' hI' n19' hk => ?_)
      replace n9 := hk _ _ n9 rfl
      replace n10 := hk _ _ n10 rfl
      replace n11 := hk _ _ n11 rfl
      replace n12 := hk _ _ n12 rfl
      replace n13 := hk _ _ n13 rfl
      replace n14 := hk _ _ n14 rfl
      replace n15 := hk _ _ n15 rfl
      replace n16 := hk _ _ n16 rfl
      replace n17 := hk _ _ n17 rfl
      replace n18 := hk _ _ n18 rfl
      have n19 := n19'
      replace hI := hI'
      clear hk hI' n19'
      obtain ⟨act9, rfl⟩ : ∃ x, x = a' := ⟨_, rfl⟩
      refine rest_take (k := 15) (d := 20) (v := .bool true) hI rfl rfl (by kernel_rfl) (Nat.lt_of_le_of_lt (by decide) hsz) (by kernel_rfl) hpan (by kernel_rfl) hS (wanted_free rfl) (fun z hz => by have e19 := n19; have f19 := n19.eval; unfold At at e19; simp [go_sem, e19]) (fun a' hI' n20' hk => ?_)
      replace n9 := hk _ _ n9 rfl
      replace n10 := hk _ _ n10 rfl
      replace n11 := hk _ _ n11 rfl
      replace n12 := hk _ _ n12 rfl
      replace n13 := hk _ _ n13 rfl
      replace n14 := hk _ _ n14 rfl
      replace n15 := hk _ _ n15 rfl
      replace n16 := hk _ _ n16 rfl
      replace n17 := hk _ _ n17 rfl
      replace n18 := hk _ _ n18 rfl
      replace n19 := hk _ _ n19 rfl
      have n20 := n20'
      replace hI := hI'
      clear hk hI' n20'
      obtain ⟨act9, rfl⟩ : ∃ x, x = a' := ⟨_, rfl⟩
      refine rest_skip (k := 16) (d := 21) hI rfl rfl (by kernel_rfl) (Nat.lt_of_le_of_lt (by decide) hsz) (by kernel_rfl) hpan (by kernel_rfl) hS (unwanted_at rfl rfl n20 rfl) (fun a' hI' n21' hk => ?_)
      replace n9 := hk _ _ n9 rfl
      replace n10 := hk _ _ n10 rfl
      replace n11 := hk _ _ n11 rfl
      replace n12 := hk _ _ n12 rfl
      replace n13 := hk _ _ n13 rfl
      replace n14 := hk _ _ n14 rfl
      replace n15 := hk _ _ n15 rfl
      replace n16 := hk _ _ n16 rfl
      replace n17 := hk _ _ n17 rfl
      replace n18 := hk _ _ n18 rfl
      replace n19 := hk _ _ n19 rfl
      replace n20 := hk _ _ n20 rfl
      have n21 := n21'
      replace hI := hI'
      clear hk hI' n21'
      obtain ⟨act9, rfl⟩ : ∃ x, x = a' := ⟨_, rfl⟩
      refine rest_skip (k := 17) (d := 22) hI rfl rfl (by kernel_rfl) (Nat.lt_of_le_of_lt (by decide) hsz) (by kernel_rfl) hpan (by kernel_rfl) hS (unwanted_at rfl rfl n20 rfl) (fun a' hI' n22' hk => ?_)
      replace n9 := hk _ _ n9 rfl
      replace n10 := hk _ _ n10 rfl
      replace n11 := hk _ _ n11 rfl
      replace n12 := hk _ _ n12 rfl
      replace n13 := hk _ _ n13 rfl
      replace n14 := hk _ _ n14 rfl
      replace n15 := hk _ _ n15 rfl
      replace n16 := hk _ _ n16 rfl
      replace n17 := hk _ _ n17 rfl
      replace n18 := hk _ _ n18 rfl
      replace n19 := hk _ _ n19 rfl
      replace n20 := hk _ _ n20 rfl
      replace n21 := hk _ _ n21 rfl
      have n22 := n22'
      replace hI := hI'
      clear hk hI' n22'
      obtain ⟨act9, rfl⟩ : ∃ x, x = a' := ⟨_, rfl⟩
      refine rest_skip (k := 18) (d := 23) hI rfl rfl (by kernel_rfl) (Nat.lt_of_le_of_lt (by decide) hsz) (by kernel_rfl) hpan (by kernel_rfl) hS (unwanted_at rfl rfl n20 rfl) (fun a' hI' n23' hk => ?_)
      replace n9 := hk _ _ n9 rfl
      replace n10 := hk _ _ n10 rfl
      replace n11 := hk _ _ n11 rfl
      replace n12 := hk _ _ n12 rfl
      replace n13 := hk _ _ n13 rfl
      replace n14 := hk _ _ n14 rfl
      replace n15 := hk _ _ n15 rfl
      replace n16 := hk _ _ n16 rfl
      replace n17 := hk _ _ n17 rfl
      replace n18 := hk _ _ n18 rfl
      replace n19 := hk _ _ n19 rfl
      replace n20 := hk _ _ n20 rfl
      replace n21 := hk _ _ n21 rfl
      replace n22 := hk _ _ n22 rfl
      have n23 := n23'
      replace hI := hI'
      clear hk hI' n23'
      obtain ⟨act9, rfl⟩ : ∃ x, x = a' := ⟨_, rfl⟩
      refine rest_skip (k := 19) (d := 24) hI rfl rfl (by kernel_rfl) (Nat.lt_of_le_of_lt (by decide) hsz) (by kernel_rfl) hpan (by kernel_rfl) hS (unwanted_at rfl rfl n20 rfl) (fun a' hI' n24' hk => ?_)
      replace n9 := hk _ _ n9 rfl
      replace n10 := hk _ _ n10 rfl
      replace n11 := hk _ _ n11 rfl
      replace n12 := hk _ _ n12 rfl
      replace n13 := hk _ _ n13 rfl
      replace n14 := hk _ _ n14 rfl
      replace n15 := hk _ _ n15 rfl
      replace n16 := hk _ _ n16 rfl
      replace n17 := hk _ _ n17 rfl
      replace n18 := hk _ _ n18 rfl
      replace n19 := hk _ _ n19 rfl
      replace n20 := hk _ _ n20 rfl
      replace n21 := hk _ _ n21 rfl
      replace n22 := hk _ _ n22 rfl
      replace n23 := hk _ _ n23 rfl
      have n24 := n24'
      replace hI := hI'
      clear hk hI' n24'
      obtain ⟨act9, rfl⟩ : ∃ x, x = a' := ⟨_, rfl⟩
      refine rest_skip (k := 20) (d := 25) hI rfl rfl (by kernel_rfl) (Nat.lt_of_le_of_lt (by decide) hsz) (by kernel_rfl) hpan (by kernel_rfl) hS (unwanted_at rfl rfl n20 rfl) (fun a' hI' n25' hk => ?_)
      replace n9 := hk _ _ n9 rfl
      replace n10 := hk _ _ n10 rfl
      replace n11 := hk _ _ n11 rfl
      replace n12 := hk _ _ n12 rfl
      replace n13 := hk _ _ n13 rfl
      replace n14 := hk _ _ n14 rfl
      replace n15 := hk _ _ n15 rfl
      replace n16 := hk _ _ n16 rfl
      replace n17 := hk _ _ n17 rfl
      replace n18 := hk _ _ n18 rfl
      replace n19 := hk _ _ n19 rfl
      replace n20 := hk _ _ n20 rfl
      replace n21 := hk _ _ n21 rfl
      replace n22 := hk _ _ n22 rfl
      replace n23 := hk _ _ n23 rfl
      replace n24 := hk _ _ n24 rfl
      have n25 := n25'
      replace hI := hI'
      clear hk hI' n25'
      obtain ⟨act9, rfl⟩ : ∃ x, x = a' := ⟨_, rfl⟩
      refine rest_skip (k := 21) (d := 26) hI rfl rfl (by kernel_rfl) (Nat.lt_of_le_of_lt (by decide) hsz) (by kernel_rfl) hpan (by kernel_rfl) hS (unwanted_at rfl rfl n20 rfl) (fun a' hI' n26' hk => ?_)
      replace n9 := hk _ _ n9 rfl
      replace n10 := hk _ _ n10 rfl
      replace n11 := hk _ _ n11 rfl
      replace n12 := hk _ _ n12 rfl
      replace n13 := hk _ _ n13 rfl
      replace n14 := hk _ _ n14 rfl
      replace n15 := hk _ _ n15 rfl
      replace n16 := hk _ _ n16 rfl
      replace n17 := hk _ _ n17 rfl
      replace n18 := hk _ _ n18 rfl
      replace n19 := hk _ _ n19 rfl
      replace n20 := hk _ _ n20 rfl
      replace n21 := hk _ _ n21 rfl
      replace n22 := hk _ _ n22 rfl
      replace n23 := hk _ _ n23 rfl
      replace n24 := hk _ _ n24 rfl
      replace n25 := hk _ _ n25 rfl
      have n26 := n26'
      replace hI := hI'
      clear hk hI' n26'
      obtain ⟨act9, rfl⟩ : ∃ x, x = a' := ⟨_, rfl⟩
      refine rest_skip (k := 22) (d := 27) hI rfl rfl (by kernel_rfl) (Nat.lt_of_le_of_lt (by decide) hsz) (by kernel_rfl) hpan (by kernel_rfl) hS (unwanted_at rfl rfl n20 rfl) (fun a' hI' n27' hk => ?_)
      replace n9 := hk _ _ n9 rfl
      replace n10 := hk _ _ n10 rfl
      replace n11 := hk _ _ n11 rfl
      replace n12 := hk _ _ n12 rfl
      replace n13 := hk _ _ n13 rfl
      replace n14 := hk _ _ n14 rfl
      replace n15 := hk _ _ n15 rfl
      replace n16 := hk _ _ n16 rfl
      replace n17 := hk _ _ n17 rfl
      replace n18 := hk _ _ n18 rfl
      replace n19 := hk _ _ n19 rfl
      replace n20 := hk _ _ n20 rfl
      replace n21 := hk _ _ n21 rfl
      replace n22 := hk _ _ n22 rfl
      replace n23 := hk _ _ n23 rfl
      replace n24 := hk _ _ n24 rfl
      replace n25 := hk _ _ n25 rfl
      replace n26 := hk _ _ n26 rfl
      have n27 := n27'
      replace hI := hI'
      clear hk hI' n27'
      obtain ⟨act9, rfl⟩ : ∃ x, x = a' := ⟨_, rfl⟩
      refine rest_skip (k := 23) (d := 28) hI rfl rfl (by kernel_rfl) (Nat.lt_of_le_of_lt (by decide) hsz) (by kernel_rfl) hpan (by kernel_rfl) hS (unwanted_at rfl rfl n20 rfl) (fun a' hI' n28' hk => ?_)
      replace n9 := hk _ _ n9 rfl
      replace n10 := hk _ _ n10 rfl
      replace n11 := hk _ _ n11 rfl
      replace n12 := hk _ _ n12 rfl
      replace n13 := hk _ _ n13 rfl
      replace n14 := hk _ _ n14 rfl
      replace n15 := hk _ _ n15 rfl
      replace n16 := hk _ _ n16 rfl
      replace n17 := hk _ _ n17 rfl
      replace n18 := hk _ _ n18 rfl
      replace n19 := hk _ _ n19 rfl
      replace n20 := hk _ _ n20 rfl
      replace n21 := hk _ _ n21 rfl
      replace n22 := hk _ _ n22 rfl
      replace n23 := hk _ _ n23 rfl
      replace n24 := hk _ _ n24 rfl
      replace n25 := hk _ _ n25 rfl
      replace n26 := hk _ _ n26 rfl
      replace n27 := hk _ _ n27 rfl
      have n28 := n28'
      replace hI := hI'
      clear hk hI' n28'
      obtain ⟨act9, rfl⟩ : ∃ x, x = a' := ⟨_, rfl⟩
      refine rest_take (k := 24) (d := 29) (v := .bool true) hI rfl rfl (by kernel_rfl) (Nat.lt_of_le_of_lt (by decide) hsz) (by kernel_rfl) hpan (by kernel_rfl) hS (wanted_free rfl) (fun z hz => by have e20 := n20; have f20 := n20.eval; unfold At at e20; simp [go_sem, e20]) (fun a' hI' n29' hk => ?_)
      replace n9 := hk _ _ n9 rfl
      replace n10 := hk _ _ n10 rfl
      replace n11 := hk _ _ n11 rfl
      replace n12 := hk _ _ n12 rfl
      replace n13 := hk _ _ n13 rfl
      replace n14 := hk _ _ n14 rfl
      replace n15 := hk _ _ n15 rfl
      replace n16 := hk _ _ n16 rfl
      replace n17 := hk _ _ n17 rfl
      replace n18 := hk _ _ n18 rfl
      replace n19 := hk _ _ n19 rfl
      replace n20 := hk _ _ n20 rfl
      replace n21 := hk _ _ n21 rfl
      replace n22 := hk _ _ n22 rfl
      replace n23 := hk _ _ n23 rfl
      replace n24 := hk _ _ n24 rfl
      replace n25 := hk _ _ n25 rfl
      replace n26 := hk _ _ n26 rfl
      replace n27 := hk _ _ n27 rfl
      replace n28 := hk _ _ n28 rfl
      have n29 := n29'
      replace hI := hI'
      clear hk hI' n29'
      obtain ⟨act9, rfl⟩ : ∃ x, x = a' := ⟨_, rfl⟩
      refine rest_done (by kernel_rfl) ?_
      exact hfin _ _ hI n29 hq
  case rest =>
    obtain ⟨V, rfl⟩ : ∃ z, z = wc := ⟨_, rfl⟩
    obtain ⟨rfl, hb⟩ := hcut
    have HXV : Hid (V.heap[B]? = some (shedB a n c mp) ∧ SetAt V mp m S ∧ V.heap[w.heap.size]? = some (pairB x y)) := Lib.hid ⟨heap_lft HX.out.1 hb, HX.out.2.1.below hb, heap_lft HX.out.2.2 hb⟩
    have HBV := Lib.hid (below_thn HB0.out hb)
    clear hb
    have hcase : (r0 || (!r1 || !r2)) = !(!r0 && (r1 && r2)) := by cases r0 <;> cases r1 <;> cases r2 <;> rfl
    obtain ⟨r, hr⟩ : ∃ z, (!r0 && (r1 && r2)) = z := ⟨_, rfl⟩
    rw [hcase, hr]
    clear hcase
    have HRR := Lib.hid hr
    clear hr
    cases r
    · go_wp2_with fail
      go_ret
      exact ⟨ret_bool (by rw [HBO.out, HRR.out]), grown_below HBV.out, by rw [HBO.out, HRR.out]; exact HXV.out.2.1⟩
    · go_upto_region 3 with fail
      go_cut [] from 30 to 35 (fun wx => SetAt wx mp m (fun z => S z && !decide (z = x)) ∧ V.grownBy wx (some mp))
      case first =>
        rename_i J K' hJ hK'
        generalize hA : (Act.mk _ _ : Act) = a0
        have m0 : At a0 0 (.pointer (some ⟨B, 0, none⟩)) := by rw [← hA]; rfl
        have m3 : At a0 3 (.pointer (some ⟨w.heap.size, 0, none⟩)) := by rw [← hA]; rfl
        have hsz : 35 < a0.tmps.size := by rw [← hA]; exact of_decide_eq_true (by kernel_rfl)
        have hfin : ∀ a' w', Kept (List.range' 30 6) a0 a' → (SetAt w' mp m (fun z => S z && !decide (z = x)) ∧ V.grownBy w' (some mp)) → K' a' w' := by
          intro a' w' hI hL
          refine hK' _ _ (Met.intro (hJ _ _ ⟨a'.tmps.getD 30 undef, a'.tmps.getD 31 undef, a'.tmps.getD 32 undef, a'.tmps.getD 33 undef, a'.tmps.getD 34 undef, a'.tmps.getD 35 undef, hL, hI.eq.trans ?_⟩))
          rw [← hA]
          kernel_rfl
        have hI : Kept (List.range' 30 6) a0 a0 := Kept.refl _ _
        clear hA hJ hK' J
        refine with_pan (fun d _ _ _ _ h => by cases d <;> exact h) ?_
        intro hpan
        refine wp_region_rest (fun z => z.heap[B]? = some (shedB a n c mp) ∧ z.heap[w.heap.size]? = some (pairB x y)) (by kernel_rfl) ?_
        obtain ⟨wz, hwz⟩ : ∃ x, V.drew = x := ⟨_, rfl⟩
        change Rest _ _ _ _ _ _ _ (V.drew)
        rw [hwz]
        have hq : Below V.heap.size V wz := by rw [← hwz]; exact (Below.refl _ _).drew
        clear hwz
        have hS := (And.intro (heap_lft HXV.out.1 hq) (heap_lft HXV.out.2.2 hq))
        refine rest_take (k := 0) (d := 30) (v := .pointer (some ⟨B, 0, none⟩)) hI rfl rfl (by kernel_rfl) (Nat.lt_of_le_of_lt (by decide) hsz) (by kernel_rfl) hpan (by kernel_rfl) hS (wanted_free rfl) (fun z hz => by have n0 := hI.at m0 (by kernel_rfl); have e0 := n0; have f0 := n0.eval; unfold At at e0; simp [go_sem, e0]) (fun a' hI' n30' hk => ?_)
        have n30 := n30'
        replace hI := hI'
        clear hk hI' n30'
        obtain ⟨act9, rfl⟩ : ∃ x, x = a' := ⟨_, rfl⟩
        refine rest_take (k := 1) (d := 31) (v := .pointer (some ⟨B, 0, none⟩)) hI rfl rfl (by kernel_rfl) (Nat.lt_of_le_of_lt (by decide) hsz) (by kernel_rfl) hpan (by kernel_rfl) hS (wanted_free rfl) (fun z hz => by have e30 := n30; have f30 := n30.eval; unfold At at e30; simp [go_sem, e30]) (fun a' hI' n31' hk => ?_)
        replace n30 := hk _ _ n30 rfl
        have n31 := n31'
        replace hI := hI'
        clear hk hI' n31'
        obtain ⟨act9, rfl⟩ : ∃ x, x = a' := ⟨_, rfl⟩
        clear n30
        refine rest_take (k := 2) (d := 32) (v := .pointer (some ⟨B, 1, none⟩)) hI rfl rfl (by kernel_rfl) (Nat.lt_of_le_of_lt (by decide) hsz) (by kernel_rfl) hpan (by kernel_rfl) hS (wanted_free rfl) (fun z hz => by have e31 := n31; have f31 := n31.eval; unfold At at e31; simp [go_sem, e31]) (fun a' hI' n32' hk => ?_)
        replace n31 := hk _ _ n31 rfl
        have n32 := n32'
        replace hI := hI'
        clear hk hI' n32'
        obtain ⟨act9, rfl⟩ : ∃ x, x = a' := ⟨_, rfl⟩
        clear n31
        refine rest_take (k := 3) (d := 33) (v := .map (some mp)) hI rfl rfl (by kernel_rfl) (Nat.lt_of_le_of_lt (by decide) hsz) (by kernel_rfl) hpan (by kernel_rfl) hS (wanted_free rfl) (fun z hz => by have e32 := n32; have f32 := n32.eval; unfold At at e32; have k0 := heap_cell hz.1 (j := 1) rfl; simp [go_sem, e32, k0]) (fun a' hI' n33' hk => ?_)
        replace n32 := hk _ _ n32 rfl
        have n33 := n33'
        replace hI := hI'
        clear hk hI' n33'
        obtain ⟨act9, rfl⟩ : ∃ x, x = a' := ⟨_, rfl⟩
        clear n32
        refine rest_take (k := 4) (d := 34) (v := .pointer (some ⟨w.heap.size, 0, none⟩)) hI rfl rfl (by kernel_rfl) (Nat.lt_of_le_of_lt (by decide) hsz) (by kernel_rfl) hpan (by kernel_rfl) hS (wanted_free rfl) (fun z hz => by have n3 := hI.at m3 (by kernel_rfl); have e3 := n3; have f3 := n3.eval; unfold At at e3; simp [go_sem, e3]) (fun a' hI' n34' hk => ?_)
        replace n33 := hk _ _ n33 rfl
        have n34 := n34'
        replace hI := hI'
        clear hk hI' n34'
        obtain ⟨act9, rfl⟩ : ∃ x, x = a' := ⟨_, rfl⟩
        refine rest_take (k := 5) (d := 35) (v := .int .i64 x) hI rfl rfl (by kernel_rfl) (Nat.lt_of_le_of_lt (by decide) hsz) (by kernel_rfl) hpan (by kernel_rfl) hS (wanted_free rfl) (fun z hz => by have e34 := n34; have f34 := n34.eval; unfold At at e34; have k0 := heap_cell hz.2 (j := 0) rfl; simp [go_sem, e34, k0]) (fun a' hI' n35' hk => ?_)
        replace n33 := hk _ _ n33 rfl
        replace n34 := hk _ _ n34 rfl
        have n35 := n35'
        replace hI := hI'
        clear hk hI' n35'
        obtain ⟨act9, rfl⟩ : ∃ x, x = a' := ⟨_, rfl⟩
        clear n34
        have hsd : SetAt wz mp m (S) := HXV.out.2.1.below hq
        obtain ⟨Z, hdr, hds, hdg⟩ := hsd.del HW.out.1 0
        have hsZ : Z.heap[B]? = some (shedB a n c mp) ∧ Z.heap[w.heap.size]? = some (pairB x y) := ⟨grown_heap hdg hS.1 HNE.out, grown_heap hdg hS.2 (by have := HLT.out; omega)⟩
        refine rest_only (k := 6) (by kernel_rfl) (op_none (k := 6) rfl rfl (wanted_free rfl) (exec_delete (.tmp 33) (.tmp 35) rfl n33.eval n35.eval hdr) ⟨hsZ, ?_⟩)
        refine rest_done (by kernel_rfl) ?_
        refine hfin _ _ hI ⟨hds, grown_trans (grown_below hq) hdg⟩
      case rest =>
        obtain ⟨M, rfl⟩ : ∃ z, z = wc := ⟨_, rfl⟩
        obtain ⟨h1, h2⟩ := hcut
        have HSM := Lib.hid h1
        have HGM := Lib.hid h2
        have HXM : Hid (M.heap[B]? = some (shedB a n c mp) ∧ M.heap[w.heap.size]? = some (pairB x y)) := Lib.hid ⟨grown_heap h2 HXV.out.1 HNE.out, grown_heap h2 HXV.out.2.2 (by have := HLT.out; omega)⟩
        clear h1 h2
        go_upto_region 4 with fail
        go_cut [] from 36 to 41 (fun wx => SetAt wx mp m (Pure.less S x y) ∧ V.grownBy wx (some mp))
        case first =>
          rename_i J K' hJ hK'
          generalize hA : (Act.mk _ _ : Act) = a0
          have m0 : At a0 0 (.pointer (some ⟨B, 0, none⟩)) := by rw [← hA]; rfl
          have m3 : At a0 3 (.pointer (some ⟨w.heap.size, 0, none⟩)) := by rw [← hA]; rfl
          have hsz : 41 < a0.tmps.size := by rw [← hA]; exact of_decide_eq_true (by kernel_rfl)
          have hfin : ∀ a' w', Kept (List.range' 36 6) a0 a' → (SetAt w' mp m (Pure.less S x y) ∧ V.grownBy w' (some mp)) → K' a' w' := by
            intro a' w' hI hL
            refine hK' _ _ (Met.intro (hJ _ _ ⟨a'.tmps.getD 36 undef, a'.tmps.getD 37 undef, a'.tmps.getD 38 undef, a'.tmps.getD 39 undef, a'.tmps.getD 40 undef, a'.tmps.getD 41 undef, hL, hI.eq.trans ?_⟩))
            rw [← hA]
            kernel_rfl
          have hI : Kept (List.range' 36 6) a0 a0 := Kept.refl _ _
          clear hA hJ hK' J
          refine with_pan (fun d _ _ _ _ h => by cases d <;> exact h) ?_
          intro hpan
          refine wp_region_rest (fun z => z.heap[B]? = some (shedB a n c mp) ∧ z.heap[w.heap.size]? = some (pairB x y)) (by kernel_rfl) ?_
          obtain ⟨wz, hwz⟩ : ∃ x, M.drew = x := ⟨_, rfl⟩
          change Rest _ _ _ _ _ _ _ (M.drew)
          rw [hwz]
          have hq : Below M.heap.size M wz := by rw [← hwz]; exact (Below.refl _ _).drew
          clear hwz
          have hS := (And.intro (heap_lft HXM.out.1 hq) (heap_lft HXM.out.2 hq))
          refine rest_take (k := 0) (d := 36) (v := .pointer (some ⟨B, 0, none⟩)) hI rfl rfl (by kernel_rfl) (Nat.lt_of_le_of_lt (by decide) hsz) (by kernel_rfl) hpan (by kernel_rfl) hS (wanted_free rfl) (fun z hz => by have n0 := hI.at m0 (by kernel_rfl); have e0 := n0; have f0 := n0.eval; unfold At at e0; simp [go_sem, e0]) (fun a' hI' n36' hk => ?_)
          have n36 := n36'
          replace hI := hI'
          clear hk hI' n36'
          obtain ⟨act9, rfl⟩ : ∃ x, x = a' := ⟨_, rfl⟩
          refine rest_take (k := 1) (d := 37) (v := .pointer (some ⟨B, 0, none⟩)) hI rfl rfl (by kernel_rfl) (Nat.lt_of_le_of_lt (by decide) hsz) (by kernel_rfl) hpan (by kernel_rfl) hS (wanted_free rfl) (fun z hz => by have e36 := n36; have f36 := n36.eval; unfold At at e36; simp [go_sem, e36]) (fun a' hI' n37' hk => ?_)
          replace n36 := hk _ _ n36 rfl
          have n37 := n37'
          replace hI := hI'
          clear hk hI' n37'
          obtain ⟨act9, rfl⟩ : ∃ x, x = a' := ⟨_, rfl⟩
          clear n36
          refine rest_take (k := 2) (d := 38) (v := .pointer (some ⟨B, 1, none⟩)) hI rfl rfl (by kernel_rfl) (Nat.lt_of_le_of_lt (by decide) hsz) (by kernel_rfl) hpan (by kernel_rfl) hS (wanted_free rfl) (fun z hz => by have e37 := n37; have f37 := n37.eval; unfold At at e37; simp [go_sem, e37]) (fun a' hI' n38' hk => ?_)
          replace n37 := hk _ _ n37 rfl
          have n38 := n38'
          replace hI := hI'
          clear hk hI' n38'
          obtain ⟨act9, rfl⟩ : ∃ x, x = a' := ⟨_, rfl⟩
          clear n37
          refine rest_take (k := 3) (d := 39) (v := .map (some mp)) hI rfl rfl (by kernel_rfl) (Nat.lt_of_le_of_lt (by decide) hsz) (by kernel_rfl) hpan (by kernel_rfl) hS (wanted_free rfl) (fun z hz => by have e38 := n38; have f38 := n38.eval; unfold At at e38; have k0 := heap_cell hz.1 (j := 1) rfl; simp [go_sem, e38, k0]) (fun a' hI' n39' hk => ?_)
          replace n38 := hk _ _ n38 rfl
          have n39 := n39'
          replace hI := hI'
          clear hk hI' n39'
          obtain ⟨act9, rfl⟩ : ∃ x, x = a' := ⟨_, rfl⟩
          clear n38
          refine rest_take (k := 4) (d := 40) (v := .pointer (some ⟨w.heap.size, 1, none⟩)) hI rfl rfl (by kernel_rfl) (Nat.lt_of_le_of_lt (by decide) hsz) (by kernel_rfl) hpan (by kernel_rfl) hS (wanted_free rfl) (fun z hz => by have n3 := hI.at m3 (by kernel_rfl); have e3 := n3; have f3 := n3.eval; unfold At at e3; simp [go_sem, e3]) (fun a' hI' n40' hk => ?_)
          replace n39 := hk _ _ n39 rfl
          have n40 := n40'
          replace hI := hI'
          clear hk hI' n40'
          obtain ⟨act9, rfl⟩ : ∃ x, x = a' := ⟨_, rfl⟩
          refine rest_take (k := 5) (d := 41) (v := .int .i64 y) hI rfl rfl (by kernel_rfl) (Nat.lt_of_le_of_lt (by decide) hsz) (by kernel_rfl) hpan (by kernel_rfl) hS (wanted_free rfl) (fun z hz => by have e40 := n40; have f40 := n40.eval; unfold At at e40; have k0 := heap_cell hz.2 (j := 1) rfl; simp [go_sem, e40, k0]) (fun a' hI' n41' hk => ?_)
          replace n39 := hk _ _ n39 rfl
          replace n40 := hk _ _ n40 rfl
          have n41 := n41'
          replace hI := hI'
          clear hk hI' n41'
          obtain ⟨act9, rfl⟩ : ∃ x, x = a' := ⟨_, rfl⟩
          clear n40
          have hsd : SetAt wz mp m (fun z => S z && !decide (z = x)) := HSM.out.below hq
          obtain ⟨Z, hdr, hds, hdg⟩ := hsd.del HW.out.2 0
          have hsZ : Z.heap[B]? = some (shedB a n c mp) ∧ Z.heap[w.heap.size]? = some (pairB x y) := ⟨grown_heap hdg hS.1 HNE.out, grown_heap hdg hS.2 (by have := HLT.out; omega)⟩
          refine rest_only (k := 6) (by kernel_rfl) (op_none (k := 6) rfl rfl (wanted_free rfl) (exec_delete (.tmp 39) (.tmp 41) rfl n39.eval n41.eval hdr) ⟨hsZ, ?_⟩)
          refine rest_done (by kernel_rfl) ?_
          refine hfin _ _ hI ⟨hds.congr (fun z => rfl), grown_trans HGM.out (grown_trans (grown_below hq) hdg)⟩
        case rest =>
          obtain ⟨N, rfl⟩ : ∃ z, z = wc := ⟨_, rfl⟩
          obtain ⟨h1, h2⟩ := hcut
          have HSN := Lib.hid h1
          have HGN := Lib.hid h2
          clear h1 h2
          go_wp2_with fail
          go_ret
          exact ⟨ret_bool (by rw [HBO.out, HRR.out]), grown_trans (grown_below HBV.out) HGN.out, by rw [HBO.out, HRR.out]; exact HSN.out⟩

namespace Pure
/-- Whether a wheel is in one of the first k pairs. -/
def usedB (L : Nat → Int) (k : Nat) (x : Int) : Bool := (List.range k).any fun j => L (j * 2) == x || L (j * 2 + 1) == x
def freeB (n : Nat) (L : Nat → Int) (k : Nat) : Int → Bool := fun x => decide (1 ≤ x ∧ x ≤ (n : Int)) && !usedB L k x
def okP (n : Nat) (L : Nat → Int) (k : Nat) : Bool := both (freeB n L k) (L (k * 2)) (L (k * 2 + 1))
def pairsB (n ln : Nat) (L : Nat → Int) : Bool := decide (∀ j, j < ln → okP n L j = true)
def trainB (n ln : Nat) (L : Nat → Int) : Bool := decide (1 ≤ (ln : Int) ∧ (ln : Int) ≤ 3) && pairsB n ln L
theorem pairsB_iff {n ln : Nat} {L : Nat → Int} : pairsB n ln L = true ↔ ∀ j, j < ln → okP n L j = true := decide_eq_true_iff
theorem pairsB_no {n ln : Nat} {L : Nat → Int} {k : Nat} (hk : k < ln) (h : okP n L k = false) : pairsB n ln L = false := by
  unfold pairsB
  exact decide_eq_false fun g => by rw [g k hk] at h; cases h
theorem usedB_succ (L : Nat → Int) (k : Nat) (x : Int) : usedB L (k + 1) x = (usedB L k x || (L (k * 2) == x || L (k * 2 + 1) == x)) := by
  unfold usedB
  rw [List.range_succ, List.any_append]
  simp
theorem less_free (n : Nat) (L : Nat → Int) (k : Nat) (z : Int) : less (freeB n L k) (L (k * 2)) (L (k * 2 + 1)) z = freeB n L (k + 1) z := by
  unfold less freeB
  rw [usedB_succ]
  by_cases h1 : z = L (k * 2)
  · subst h1; simp
  · by_cases h2 : z = L (k * 2 + 1)
    · subst h2; simp
    · have g1 : (L (k * 2) == z) = false := by simp; exact fun e => h1 e.symm
      have g2 : (L (k * 2 + 1) == z) = false := by simp; exact fun e => h2 e.symm
      simp [h1, h2, g1, g2]
theorem freeB_zero (n : Nat) (L : Nat → Int) (z : Int) : decide (1 ≤ z ∧ z ≤ (n : Int)) = freeB n L 0 z := by simp [freeB, usedB]
end Pure
set_option maxHeartbeats 2000000 in
set_option maxRecDepth 100000 in
theorem fitsOne_any (Bs B mp m : Nat) (a : Option Addr) (n c : Nat) (S : Int → Bool) (x y : Int) (hx : (Lit.int .i64 x).wf = true) (hy : (Lit.int .i64 y).wf = true) (hne : B ≠ mp) (w : World) (hs : w.heap[Bs]? = some (.cells #[.pointer (some ⟨B, 0, none⟩)] 49)) (hB : w.heap[B]? = some (shedB a n c mp)) (hS : SetAt w mp m S) :
    Calls Try.prog 50 #[pairV x y, .pointer (some ⟨Bs, 0, none⟩)] w (TakeOut mp m S x y (!Pure.both S x y) w) := by
  obtain ⟨W, hW⟩ : ∃ W, w.alloc (pairB x y) = W := ⟨_, rfl⟩
  have HB0 : Hid (Below w.heap.size w W) := Lib.hid (by rw [← hW]; exact below_new _ _)
  have HX : Hid (W.heap[w.heap.size]? = some (pairB x y)) := Lib.hid (by rw [← hW]; exact heap_top _ _ rfl)
  have HBs := Lib.hid (heap_lft hs HB0.out)
  have HBB := Lib.hid (heap_lft hB HB0.out)
  have HSS := Lib.hid (hS.below HB0.out)
  have HW := Lib.hid (And.intro hx (And.intro hy hne))
  clear hs hB hS hx hy hne
  have x0 := heap_cell HX.out (j := 0) rfl
  have x1 := heap_cell HX.out (j := 1) rfl
  have b0 := heap_cell HBs.out (j := 0) rfl
  go_enter Try.func50, Try.ntmps50
  go_upto_region 1 with fail
  try rw [hW]
  clear hW
  go_wp2_with fail
  refine (take_any B mp m a n c S x y HW.out.1 HW.out.2.1 HW.out.2.2 _ HBB.out HSS.out).mono ?_
  rintro e u ⟨rfl, hg, hs⟩
  have HG := Lib.hid hg
  have HS2 := Lib.hid hs
  clear hg hs
  go_wp2_with fail
  go_ret
  exact ⟨rfl, grown_trans (grown_below HB0.out) HG.out, HS2.out⟩
/-- What stands when fits asks: the box of the shed, and the map. -/
structure AtWork (w : World) (Bs B mp : Nat) (a : Option Addr) (n c : Nat) : Prop where
  s : w.heap[Bs]? = some (.cells #[.pointer (some ⟨B, 0, none⟩)] 49)
  b : w.heap[B]? = some (shedB a n c mp)
  ns : Bs ≠ mp
  nb : B ≠ mp
theorem AtWork.grown {w w' : World} {Bs B mp : Nat} {a : Option Addr} {n c : Nat} (h : AtWork w Bs B mp a n c) (hg : w.grownBy w' (some mp)) : AtWork w' Bs B mp a n c := ⟨grown_heap hg h.s h.ns, grown_heap hg h.b h.nb, h.ns, h.nb⟩
theorem nums_grown {w w' : World} {mp : Nat} {a : Option Addr} {len : Nat} {F : Nat → Int} (h : NumsAt w a len F) (hg : w.grownBy w' (some mp)) (hn : ∀ x, a = some x → 0 < len → x.block ≠ mp) : NumsAt w' a len F := fun j hj => by
  obtain ⟨b, off, h0, h1⟩ := h j hj
  refine ⟨b, off, h0, ?_⟩
  have h2 := hg.block b (World.block_lt_of_cell? w _ h1) (by have := hn _ h0 (by omega); simpa using this)
  exact (World.cell?_of_block (w := w) h2).trans h1
set_option maxHeartbeats 4000000 in
set_option maxRecDepth 100000 in
theorem indexFits_any (Bs B mp m : Nat) (a : Option Addr) (n c : Nat) (la : Option Addr) (ln lc : Nat) (L : Nat → Int) (hl : ln ≤ 20) (hw : ∀ j, j < ln * 2 → (Lit.int .i64 (L j)).wf = true) (w : World) (hA : AtWork w Bs B mp a n c) (hS : SetAt w mp m (Pure.freeB n L 0)) (hL : NumsAt w la (ln * 2) L) (hn : ∀ x, la = some x → 0 < ln * 2 → x.block ≠ mp) :
    Calls Try.prog 69 #[.slice la ln lc, .func (.func 50) #[] #[.pointer (some ⟨Bs, 0, none⟩)]] w fun e w' => ∃ z : Int, e = .returned (.int .i64 z) ∧ decide (0 ≤ z) = (!Pure.pairsB n ln L) ∧ w.grownBy w' (some mp) := by
  have HL := Lib.hid hL
  have HW := Lib.hid hw
  have HA := Lib.hid hA
  have HN := Lib.hid hn
  clear hL hw hA hn
  go_enter Try.func69, Try.ntmps69
  go_wp2_with fail
  go_loopw [5, 8] (fun _ i wr => ∃ k : Nat, k ≤ ln ∧ i = .int .i64 k ∧ (∀ j, j < k → Pure.okP n L j = true) ∧ SetAt wr mp m (Pure.freeB n L k) ∧ w.grownBy wr (some mp)) (fun _ i _ => ln - (intOf i).toNat)
  case atStart => exact ⟨0, Nat.zero_le _, rfl, fun j hj => by omega, hS, grown_refl _ _⟩
  case round =>
    obtain ⟨k, hk, rfl, hq, hs, hg⟩ := hrel
    have HQ := Lib.hid hq
    have HS := Lib.hid hs
    have HG := Lib.hid hg
    have HAk := Lib.hid (HA.out.grown hg)
    have HLk := Lib.hid (nums_grown HL.out hg HN.out)
    clear hq hs hg
    by_cases hk1 : k < ln
    · obtain ⟨b, off, rfl, _⟩ := HLk.out (k * 2) (by omega)
      have n1 : (k : Int) < ln := by omega
      have c0 := HLk.out.at (show k * 2 < ln * 2 by omega)
      have c1 := nums_row HLk.out (show k * 2 + 1 < ln * 2 by omega)
      have hcl := fitsOne_any Bs B mp m a n c (Pure.freeB n L k) (L (k * 2)) (L (k * 2 + 1)) (HW.out _ (by omega)) (HW.out _ (by omega)) HAk.out.nb wr HAk.out.s HAk.out.b HS.out
      obtain ⟨r, hr⟩ : ∃ z, Pure.both (Pure.freeB n L k) (L (k * 2)) (L (k * 2 + 1)) = z := ⟨_, rfl⟩
      have hcl2 : Calls Try.prog 50 #[pairV (L (k * 2)) (L (k * 2 + 1)), .pointer (some ⟨Bs, 0, none⟩)] wr fun e w' => e = .returned (.bool (!r)) ∧ wr.grownBy w' (some mp) ∧ (r = true → SetAt w' mp m (Pure.less (Pure.freeB n L k) (L (k * 2)) (L (k * 2 + 1)))) := hcl.mono fun e w' ⟨h1, h2, h3⟩ => ⟨by rw [h1, hr], h2, fun h => by rw [hr, if_pos h] at h3; exact h3⟩
      have HC := Lib.hid hcl2
      have HR := Lib.hid hr
      clear hcl hcl2 hr
      cases r with
      | false =>
        go_wp2_with (go_at_call 50; refine HC.out.mono ?_; rintro e u ⟨rfl, hg2, hs2⟩)
        go_ret
        exact ⟨k, rfl, by rw [Pure.pairsB_no hk1 HR.out]; simp, grown_trans HG.out hg2⟩
      | true =>
        go_wp2_with (go_at_call 50; refine HC.out.mono ?_; rintro e u ⟨rfl, hg2, hs2⟩)
        go_roundw
        case rel => exact ⟨k + 1, by omega, by go_num, fun j hj => by
          by_cases e : j = k
          · subst e; exact HR.out
          · exact HQ.out j (by omega), SetAt.congr (hs2 (by first | rfl | trivial)) (fun z => Pure.less_free n L k z), grown_trans HG.out hg2⟩
        case measure => simp [intOf]; omega
    · obtain rfl : k = ln := by omega
      go_wp2_with fail
      go_ret
      exact ⟨-1, rfl, by rw [Pure.pairsB_iff.2 HQ.out]; rfl, HG.out⟩
set_option maxHeartbeats 1000000 in
theorem containsFits_any (Bs B mp m : Nat) (a : Option Addr) (n c : Nat) (la : Option Addr) (ln lc : Nat) (L : Nat → Int) (hl : ln ≤ 20) (hw : ∀ j, j < ln * 2 → (Lit.int .i64 (L j)).wf = true) (w : World) (hA : AtWork w Bs B mp a n c) (hS : SetAt w mp m (Pure.freeB n L 0)) (hL : NumsAt w la (ln * 2) L) (hn : ∀ x, la = some x → 0 < ln * 2 → x.block ≠ mp) :
    Calls Try.prog 49 #[.slice la ln lc, .func (.func 50) #[] #[.pointer (some ⟨Bs, 0, none⟩)]] w fun e w' => e = .returned (.bool (!Pure.pairsB n ln L)) ∧ w.grownBy w' (some mp) := by
  go_enter Try.func49, Try.ntmps49
  go_wp2_with fail
  refine (indexFits_any Bs B mp m a n c la ln lc L hl hw w hA hS hL hn).mono ?_
  rintro e u ⟨z, rfl, hz, hg⟩
  have HZ := Lib.hid hz
  have HG := Lib.hid hg
  clear hz hg
  go_wp2_with fail
  go_ret
  exact ⟨ret_bool HZ.out, HG.out⟩
set_option maxHeartbeats 2000000 in
set_option maxRecDepth 100000 in
/-- **fits**. -/
theorem fits_any (B mp m : Nat) (a : Option Addr) (n c : Nat) (la : Option Addr) (ln lc : Nat) (L : Nat → Int) (hl : ln ≤ 20) (hw : ∀ j, j < ln * 2 → (Lit.int .i64 (L j)).wf = true) (w : World) (hB : w.heap[B]? = some (shedB a n c mp)) (hne : B ≠ mp) (hS : SetAt w mp m (Pure.freeB n L 0)) (hL : NumsAt w la (ln * 2) L) (hn : ∀ x, la = some x → 0 < ln * 2 → x.block ≠ mp) :
    Calls Try.prog 28 #[.pointer (some ⟨B, 0, none⟩), .slice la ln lc] w fun e w' => e = .returned (.bool (Pure.trainB n ln L)) ∧ w.grownBy w' (some mp) := by
  obtain ⟨W, hW⟩ : ∃ W, w.alloc (.cells #[.pointer (some ⟨B, 0, none⟩)] 49) = W := ⟨_, rfl⟩
  have HB0 : Hid (Below w.heap.size w W) := Lib.hid (by rw [← hW]; exact below_new _ _)
  have HX : Hid (AtWork W w.heap.size B mp a n c) := Lib.hid ⟨by rw [← hW]; exact heap_top _ _ rfl, heap_lft hB HB0.out, fun e => absurd hS.lt (by omega), hne⟩
  have HS := Lib.hid (hS.below HB0.out)
  have HL := Lib.hid (hL.below HB0.out)
  have HN := Lib.hid (And.intro hn hw)
  clear hB hne hS hL hn hw
  unfold Pure.trainB
  obtain ⟨r1, hr1⟩ : ∃ z, decide (1 ≤ (ln : Int) ∧ (ln : Int) ≤ 3) = z := ⟨_, rfl⟩
  rw [hr1]
  have HR1 := Lib.hid hr1
  clear hr1
  go_enter Try.func28, Try.ntmps28
  go_upto_region 1 with fail
  try rw [hW]
  clear hW
  go_wp2_with fail
  refine (within1G 1 3 ln _ _ _ (first_cell _ _ _ rfl) r1 HR1.out).mono ?_
  rintro e u ⟨rfl, rfl⟩
  have HBu : Hid (Below W.heap.size W ((W.alloc (.cells #[.int .i64 ln] 3)).alloc (spanB 1 3))) := Lib.hid (below_thn (below_new _ _) (below_new _ _))
  cases r1
  · go_wp2_with fail
    go_ret
    exact ⟨ret_bool (by simp), grown_trans (grown_below HB0.out) (grown_below HBu.out)⟩
  · go_wp2_with fail
    refine (containsFits_any w.heap.size B mp m a n c la ln lc L hl HN.out.2 _ (HX.out.grown (grown_below HBu.out)) (HS.out.below HBu.out) (HL.out.below HBu.out) HN.out.1).mono ?_
    rintro e u ⟨rfl, hg⟩
    have HG := Lib.hid (grown_trans (grown_trans (grown_below HB0.out) (grown_below HBu.out)) hg)
    clear hg
    go_wp2_with fail
    go_ret
    exact ⟨ret_bool (by simp), HG.out⟩
/-- What work makes. -/
def WorkOut (a : Option Addr) (n c : Nat) (w : World) (e : Ending) (w' : World) : Prop := ∃ B mp, e = .returned (.pointer (some ⟨B, 0, none⟩)) ∧ w'.heap[B]? = some (shedB a n c mp) ∧ SetAt w' mp n (fun x => decide (1 ≤ x ∧ x ≤ (n : Int))) ∧ w.heap.size ≤ B ∧ w.heap.size ≤ mp ∧ B ≠ mp ∧ Below w.heap.size w w'
set_option maxHeartbeats 4000000 in
set_option maxRecDepth 100000 in
/-- **work**. -/
theorem work_any (a : Option Addr) (n c : Nat) (hn : n ≤ 20) (w : World) :
    Calls Try.prog 26 #[wheelsV a n c] w (WorkOut a n c w) := by
  obtain ⟨V, hV⟩ : ∃ V, (w.alloc (wheelsB a n c)).alloc (.map #[] 0) = V := ⟨_, rfl⟩
  have HBV : Hid (Below w.heap.size w V) := Lib.hid (by rw [← hV]; exact (below_new _ _).alloc (by simp) _)
  have HXV : Hid (V.heap[w.heap.size]? = some (wheelsB a n c)) := Lib.hid (by rw [← hV]; exact heap_up (heap_top _ _ rfl) _)
  have HSV : Hid (SetAt V (w.heap.size + 1) 0 (fun _ => false)) := Lib.hid (by rw [← hV]; exact set_made _ (by simp))
  have HZV : Hid (V.heap.size = w.heap.size + 2) := Lib.hid (by rw [← hV]; simp)
  obtain ⟨W, hW⟩ : ∃ W, V.alloc (shedB a n c (w.heap.size + 1)) = W := ⟨_, rfl⟩
  have hb : Below V.heap.size V W := by rw [← hW]; exact below_new _ _
  have HB : Hid (Below w.heap.size w W) := Lib.hid (below_thn HBV.out hb)
  have HX := Lib.hid (heap_lft HXV.out hb)
  have HS := Lib.hid (HSV.out.below hb)
  have HT : Hid (W.heap[V.heap.size]? = some (shedB a n c (w.heap.size + 1))) := Lib.hid (by rw [← hW]; exact heap_top _ _ rfl)
  clear hb
  have hmm := @run_makeMap Try.prog
  go_enter Try.func26, Try.ntmps26
  go_upto_region 2 with fail
  try rw [hV]
  try rw [hW]
  clear hV hW hmm
  have x0 := heap_cell HX.out (j := 0) rfl
  go_wp2_with fail
  clear x0
  go_loopw [4, 12] (fun _ i wr => ∃ k : Nat, k ≤ n ∧ i = .int .i64 k ∧ SetAt wr (w.heap.size + 1) k (fun x => decide (1 ≤ x ∧ x ≤ (k : Int))) ∧ W.grownBy wr (some (w.heap.size + 1))) (fun _ i _ => n - (intOf i).toNat)
  case atStart => exact ⟨0, Nat.zero_le _, rfl, HS.out.congr (fun x => by simp; omega), grown_refl _ _⟩
  case round =>
    obtain ⟨k, hk, rfl, hs, hg⟩ := hrel
    have HSk := Lib.hid hs
    have HGk := Lib.hid hg
    have HTk := Lib.hid (grown_heap hg HT.out (by have := HZV.out; omega))
    clear hs hg
    by_cases hk1 : k < n
    · have n1 : (k : Int) < n := by omega
      have t1 := heap_cell HTk.out (j := 1) rfl
      have hwf : (Lit.int .i64 ((k : Int) + 1)).wf = true := by simp [Lit.wf, IntKind.min, IntKind.max, IntKind.bits, IntKind.signed]; omega
      have HW := Lib.hid hwf
      clear hwf
      go_wp2_with (first | (at_mapUpdate; refine wpList_set_put _ rfl _ _ _ rfl (w.heap.size + 1) k _ rfl HSk.out (by unfold maxLen; omega) ((k : Int) + 1) rfl rfl HW.out ?_; intro w1 hs1 hg1) | go_in)
      go_roundw
      case rel => exact ⟨k + 1, by omega, by go_num, hs1.congr (fun x => by
        by_cases h : x = (k : Int) + 1
        · subst h; simp; omega
        · simp only [h, decide_false, Bool.or_false]
          by_cases h2 : 1 ≤ x ∧ x ≤ (k : Int)
          · rw [decide_eq_true h2, decide_eq_true (by omega)]
          · rw [decide_eq_false h2, decide_eq_false (by omega)]), grown_trans HGk.out hg1⟩
      case measure => simp [intOf]; omega
    · obtain rfl : k = n := by omega
      have n1 : ¬ (k : Int) < k := by omega
      go_wp2_with fail
      go_ret
      exact ⟨V.heap.size, w.heap.size + 1, rfl, HTk.out, HSk.out, by have := HZV.out; omega, by omega, by have := HZV.out; omega, HB.out.grown HGk.out HB.out.size (fun j e => by cases e; omega)⟩

end Go.Proofs.Ytacdbjandcdejaa
