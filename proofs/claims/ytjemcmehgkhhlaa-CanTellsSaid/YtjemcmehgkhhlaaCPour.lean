/-
  The contracts of most, moved, pour and back.
-/
import Derived.Test.YtjemcmehgkhhlaaCNow
namespace Go.Proofs.Ytjemcmehgkhhlaa
open Go.RowKit

namespace Pure
/-- How much a can, or the tank, can hold. -/
def mostA (A : Nat → Int) (t : Nat) : Int := if t = 0 then 600 else A (t - 1)
def movedS (S : Nat → Int) (f t : Nat) (p : Int) : Nat → Int := fun q => if q = t then S t + p else if q = f then S f - p else S q
/-- How much is poured. -/
def amt (A S : Nat → Int) (f t : Nat) : Int := if mostA A t - S t < S f then mostA A t - S t else S f
def part (A S : Nat → Int) (f t : Nat) : Bool := (decide (f = 0) && decide (amt A S f t < mostA A t - S t)) || (decide (t = 0) && decide (amt A S f t < S f))
def canP (A S : Nat → Int) (f t : Nat) : Bool := decide (0 < amt A S f t) && !part A S f t
/-- What is inside is within what cans hold. -/
def Good (n : Nat) (A S : Nat → Int) : Prop := (0 ≤ S 0 ∧ S 0 ≤ 600) ∧ ∀ j, j < n → 1 ≤ A j ∧ A j ≤ 20 ∧ 0 ≤ S (j + 1) ∧ S (j + 1) ≤ A j
theorem Good.most {n : Nat} {A S : Nat → Int} (h : Good n A S) {q : Nat} (hq : q ≤ n) : 0 ≤ S q ∧ S q ≤ mostA A q ∧ mostA A q ≤ 600 := by
  unfold mostA
  by_cases h0 : q = 0
  · subst h0; simp; exact h.1
  · obtain ⟨j, rfl⟩ : ∃ j, q = j + 1 := ⟨q - 1, by omega⟩
    have := h.2 j (by omega)
    simp
    omega
theorem Good.amt {n : Nat} {A S : Nat → Int} (h : Good n A S) {f t : Nat} (hf : f ≤ n) (ht : t ≤ n) : 0 ≤ amt A S f t ∧ amt A S f t ≤ S f ∧ S t + amt A S f t ≤ mostA A t := by
  have h1 := h.most hf
  have h2 := h.most ht
  unfold Pure.amt
  split <;> omega
theorem Good.moved {n : Nat} {A S : Nat → Int} (h : Good n A S) {f t : Nat} (hf : f ≤ n) (ht : t ≤ n) (hne : f ≠ t) : Good n A (movedS S f t (Pure.amt A S f t)) := by
  have h3 := h.amt hf ht
  have hm : ∀ q, q ≤ n → 0 ≤ movedS S f t (Pure.amt A S f t) q ∧ movedS S f t (Pure.amt A S f t) q ≤ mostA A q := fun q hq => by
    have h1 := h.most hq
    have h4 := h.most hf
    have h5 := h.most ht
    unfold movedS
    by_cases e : q = t
    · subst e; rw [if_pos rfl]; omega
    · rw [if_neg e]
      by_cases e2 : q = f
      · subst e2; rw [if_pos rfl]; omega
      · rw [if_neg e2]; exact ⟨h1.1, h1.2.1⟩
  refine ⟨by have := hm 0 (by omega); unfold mostA at this; simpa using this, fun j hj => ?_⟩
  have h1 := hm (j + 1) (by omega)
  have h2 := h.2 j hj
  unfold mostA at h1
  simp at h1
  omega
end Pure

set_option maxHeartbeats 2000000 in
set_option maxRecDepth 100000 in
theorem most_any (Bn : Nat) (a : Option Addr) (n c : Nat) (b : Option Addr) (m d : Nat) (k : Int) (l : Option Addr) (ln lc : Nat) (A : Nat → Int) (x : Nat) (hx : x ≤ n) (hn : n ≤ 3) (w : World) (hX : w.heap[Bn]? = some (benchB a n c b m d k l ln lc)) (hA : NumsAt w a n A) :
    Calls Try.prog 37 #[.pointer (some ⟨Bn, 0, none⟩), .int .i64 (x : Int)] w fun e w' => e = .returned (.int .i64 (Pure.mostA A x)) ∧ w = w' := by
  have HA := Lib.hid hA
  have x0 := heap_cell hX (j := 0) rfl
  clear hX hA
  go_enter Try.func37, Try.ntmps37
  by_cases h0 : x = 0
  · have h1 : ((x : Int) == 0) = true := by rw [h0]; rfl
    have H0 := Lib.hid h0
    clear h0
    go_wp2_with fail
    go_ret
    exact ⟨ret_int (by unfold Pure.mostA; rw [if_pos H0.out]), rfl⟩
  · have h1 : ((x : Int) == 0) = false := beq_eq_false_iff_ne.2 (by omega)
    obtain ⟨y, rfl⟩ : ∃ y, x = y + 1 := ⟨x - 1, by omega⟩
    obtain ⟨g, off, rfl, hc⟩ := HA.out y (by omega)
    have hw : IntKind.i64.wrap (((y + 1 : Nat) : Int) - 1) = (y : Int) := by rw [IntWalk.i64_in _ (by omega)]; omega
    have hw' : IntKind.i64.wrap ((y : Int) + 1 - 1) = (y : Int) := by rw [IntWalk.i64_in _ (by omega)]; omega
    have n1 : (y : Int) < n := by omega
    clear h0 hx
    go_wp2_with fail
    go_ret
    exact ⟨ret_int (by unfold Pure.mostA; rw [if_neg (by omega), Nat.add_sub_cancel]), rfl⟩

set_option maxHeartbeats 4000000 in
set_option maxRecDepth 100000 in
theorem moved_any (S : Nat → Int) (f t : Nat) (p : Int) (hf : f < 4) (ht : t < 4) (hne : f ≠ t) (hS : ∀ q, q < 4 → 0 ≤ S q ∧ S q ≤ 600) (hp : 0 ≤ p ∧ p ≤ 600) (w : World) :
    Calls Try.prog 38 #[insV S, pourV f t, .int .i64 p] w fun e w' => e = .returned (insV (Pure.movedS S f t p)) ∧ Below w.heap.size w w' := by
  obtain ⟨W, hW⟩ : ∃ W, ((w.alloc (insB S)).alloc (pourB f t)).alloc (insB (fun _ => 0)) = W := ⟨_, rfl⟩
  have HB : Hid (Below w.heap.size w W) := Lib.hid (by rw [← hW]; exact ((below_new _ _).alloc (by simp) _).alloc (by simp; omega) _)
  have HI : Hid (W.heap[w.heap.size]? = some (insB S)) := Lib.hid (by rw [← hW]; exact heap_up (heap_up (heap_top _ _ rfl) _) _)
  have HP : Hid (W.heap[w.heap.size + 1]? = some (pourB f t)) := Lib.hid (by rw [← hW]; exact heap_up (heap_top _ _ (by simp)) _)
  have HR : Hid (W.heap[w.heap.size + 1 + 1]? = some (insB (fun _ => 0))) := Lib.hid (by rw [← hW]; exact heap_top _ _ (by simp))
  have hw1 : IntKind.i64.wrap (S f - p) = S f - p := IntWalk.i64_in _ (by have := hS f hf; omega)
  have hw2 : IntKind.i64.wrap (S t + p) = S t + p := IntWalk.i64_in _ (by have := hS t ht; omega)
  have p0 := heap_cell HP.out (j := 0) rfl
  have p1 := heap_cell HP.out (j := 1) rfl
  have cf := ins_cell HI.out hf
  have ff := heap_frozen HI.out f
  have n1 : (f : Int) < 4 := by omega
  have n2 : (t : Int) < 4 := by omega
  go_enter Try.func38, Try.ntmps38
  go_upto_region 1 with fail
  try rw [hW]
  clear hW
  go_upto_region 2 with fail
  obtain ⟨V, hV⟩ : ∃ V, W.setCell ⟨w.heap.size, f, none⟩ (.int .i64 (S f - p)) = V := ⟨_, rfl⟩
  have HIV : Hid (V.heap[w.heap.size]? = some (insB (fun j => if j = f then S f - p else S j))) := Lib.hid (by rw [← hV]; exact ins_set HI.out hf _)
  have HPV : Hid (V.heap[w.heap.size + 1]? = some (pourB f t)) := Lib.hid (by rw [← hV]; exact (setCell_other (by simp)).trans HP.out)
  have HRV : Hid (V.heap[w.heap.size + 1 + 1]? = some (insB (fun _ => 0))) := Lib.hid (by rw [← hV]; exact (setCell_other (by dsimp only; omega)).trans HR.out)
  have HBV : Hid (Below w.heap.size w V) := Lib.hid (by rw [← hV]; exact HB.out.setCell (Nat.le_refl _) _)
  try rw [hV]
  clear hV p0 p1 cf ff
  have p1 := heap_cell HPV.out (j := 1) rfl
  have ct : V.cell? ⟨w.heap.size, t, none⟩ = some (.int .i64 (S t)) := by have := ins_cell HIV.out ht; rwa [if_neg (Ne.symm hne)] at this
  have ft := heap_frozen HIV.out t
  go_upto_region 3 with fail
  obtain ⟨U, hU⟩ : ∃ U, V.setCell ⟨w.heap.size, t, none⟩ (.int .i64 (S t + p)) = U := ⟨_, rfl⟩
  have HIU : Hid (U.heap[w.heap.size]? = some (insB (Pure.movedS S f t p))) := Lib.hid (by
    rw [← hU]
    exact (ins_set HIV.out ht _).trans (congrArg some (ins_congr (fun q hq => rfl))))
  have HRU : Hid (U.heap[w.heap.size + 1 + 1]? = some (insB (fun _ => 0))) := Lib.hid (by rw [← hU]; exact (setCell_other (by dsimp only; omega)).trans HRV.out)
  have HBU : Hid (Below w.heap.size w U) := Lib.hid (by rw [← hU]; exact HBV.out.setCell (Nat.le_refl _) _)
  try rw [hU]
  clear hU p1 ct ft hw1 hw2
  have z0 := heap_cell HIU.out (j := 0) rfl
  have z1 := heap_cell HIU.out (j := 1) rfl
  have z2 := heap_cell HIU.out (j := 2) rfl
  have z3 := heap_cell HIU.out (j := 3) rfl
  have r0 := heap_cell HRU.out (j := 0) rfl
  have r1 := heap_cell HRU.out (j := 1) rfl
  have r2 := heap_cell HRU.out (j := 2) rfl
  have r3 := heap_cell HRU.out (j := 3) rfl
  have f0 := heap_frozen HRU.out 0
  have f1 := heap_frozen HRU.out 1
  have f2 := heap_frozen HRU.out 2
  have f3 := heap_frozen HRU.out 3
  go_wp2_with fail
  refine bodyPost_ret (v := insV (Pure.movedS S f t p)) (by simp [results, Try.results38, go_sem, r0, r1, r2, r3]; try rfl) rfl ⟨rfl, ?_⟩
  repeat (first | with_reducible exact HBU.out | with_reducible refine Below.setCell ?_ (by first | (simp; done) | (dsimp only; omega)) _)

set_option maxHeartbeats 2000000 in
set_option maxRecDepth 100000 in
theorem back_any (f t p : Int) (S : Nat → Int) (w : World) : Calls Try.prog 21 #[stepV f t p S] w fun e w' => e = .returned (.int .i64 (if t = 0 then p else 0)) ∧ Below w.heap.size w w' := by
  go_enter Try.func21, Try.ntmps21
  by_cases h0 : t = 0
  · have h1 : (t == 0) = true := by rw [h0]; rfl
    have H0 := Lib.hid h0
    clear h0
    go_wp2_with fail
    go_ret
    exact ⟨ret_int (by first | rfl | rw [if_pos H0.out]), below_new _ _⟩
  · have h1 : (t == 0) = false := by simpa using h0
    have H0 := Lib.hid h0
    clear h0
    go_wp2_with fail
    go_ret
    exact ⟨ret_int (by first | rfl | rw [if_neg H0.out]), below_new _ _⟩

set_option maxHeartbeats 8000000 in
set_option maxRecDepth 100000 in
/-- **pour**. -/
theorem pour_any (Bn : Nat) (a : Option Addr) (n c : Nat) (b : Option Addr) (m d : Nat) (k : Int) (l : Option Addr) (ln lc : Nat) (A S : Nat → Int) (f t : Nat) (hf : f ≤ n) (ht : t ≤ n) (hne : f ≠ t) (hn : n ≤ 3) (hS : ∀ q, q < 4 → 0 ≤ S q ∧ S q ≤ 600) (hG : Pure.Good n A S) (w : World) (hX : w.heap[Bn]? = some (benchB a n c b m d k l ln lc)) (hA : NumsAt w a n A) :
    Calls Try.prog 28 #[.pointer (some ⟨Bn, 0, none⟩), insV S, pourV f t] w fun e w' => e = .returned (.tuple #[stepV f t (Pure.amt A S f t) (Pure.movedS S f t (Pure.amt A S f t)), .bool (Pure.canP A S f t)]) ∧ Below w.heap.size w w' := by
  obtain ⟨W, hW⟩ : ∃ W, ((w.alloc (insB S)).alloc (pourB f t)).alloc (stepB 0 0 0 (fun _ => 0)) = W := ⟨_, rfl⟩
  have HB : Hid (Below w.heap.size w W) := Lib.hid (by rw [← hW]; exact ((below_new _ _).alloc (by simp) _).alloc (by simp; omega) _)
  have HI : Hid (W.heap[w.heap.size]? = some (insB S)) := Lib.hid (by rw [← hW]; exact heap_up (heap_up (heap_top _ _ rfl) _) _)
  have HP : Hid (W.heap[w.heap.size + 1]? = some (pourB f t)) := Lib.hid (by rw [← hW]; exact heap_up (heap_top _ _ (by simp)) _)
  have HR : Hid (W.heap[w.heap.size + 1 + 1]? = some (stepB 0 0 0 (fun _ => 0))) := Lib.hid (by rw [← hW]; exact heap_top _ _ (by simp))
  have HX := Lib.hid (heap_lft hX HB.out)
  have HA := Lib.hid (hA.below HB.out)
  have HS := Lib.hid hS
  have HG := Lib.hid hG
  clear hX hA hS hG
  have hgf := HG.out.most hf
  have hgt := HG.out.most ht
  have hga := HG.out.amt hf ht
  obtain ⟨mt, hmt⟩ : ∃ x, Pure.mostA A t = x := ⟨_, rfl⟩
  have hw : IntKind.i64.wrap (mt - S t) = mt - S t := IntWalk.i64_in _ (by omega)
  have HMT := Lib.hid hmt
  have n1 : (f : Int) < 4 := by omega
  have n2 : (t : Int) < 4 := by omega
  go_enter Try.func28, Try.ntmps28
  go_upto_region 1 with fail
  try rw [hW]
  clear hW
  have xx0 : ∀ xq : Among (Below W.heap.size W), xq.val.cell? ⟨w.heap.size + 1, 0, none⟩ = some (.int .i64 (f : Int)) := fun xq => below_cell xq.ok (heap_cell HP.out rfl)
  have xx1 : ∀ xq : Among (Below W.heap.size W), xq.val.cell? ⟨w.heap.size + 1, 1, none⟩ = some (.int .i64 (t : Int)) := fun xq => below_cell xq.ok (heap_cell HP.out rfl)
  have xx2 : ∀ xq : Among (Below W.heap.size W), xq.val.cell? ⟨w.heap.size, f, none⟩ = some (.int .i64 (S f)) := fun xq => below_cell xq.ok (ins_cell HI.out (by omega))
  have xx3 : ∀ xq : Among (Below W.heap.size W), xq.val.cell? ⟨w.heap.size, t, none⟩ = some (.int .i64 (S t)) := fun xq => below_cell xq.ok (ins_cell HI.out (by omega))
  have HCM : Hid (∀ xq : Among (Below W.heap.size W), Calls Try.prog 37 #[.pointer (some ⟨Bn, 0, none⟩), .int .i64 (t : Int)] xq.val fun e w' => e = .returned (.int .i64 mt) ∧ ∃ y : Among (Below W.heap.size W), w' = y.val) := Lib.hid (fun xq => calls_class ((most_any Bn a n c b m d k l ln lc A t ht hn xq.val (heap_lft HX.out xq.ok) (HA.out.below xq.ok)).mono fun e w' h => ⟨h.1.trans (ret_int HMT.out), by rw [← h.2]; exact xq.ok⟩))
  have HSt : Hid (Below W.heap.size W W.drew) := Lib.hid (Below.refl _ _).drew
  have hne0 : Nonempty (Among (Below W.heap.size W)) := ⟨⟨_, HSt.out⟩⟩
  refine wp_region_class (Below W.heap.size W) (by kernel_rfl) (by kernel_rfl) HSt.out ?_
  repeat (go_big_quiet_step ((go_at_call 37; with_reducible exact HCM.out _)))
  refine wpQuiet_nil ?_
  intro V hx
  have HBV := Lib.hid (among_out hx)
  clear hx hne0 xx0 xx1 xx2 xx3
  have HPV := Lib.hid (heap_lft HP.out HBV.out)
  have HIV := Lib.hid (heap_lft HI.out HBV.out)
  have HRV := Lib.hid (heap_lft HR.out HBV.out)
  have HVB := Lib.hid (below_thn HB.out HBV.out)
  obtain ⟨am, ham⟩ : ∃ x, Pure.amt A S f t = x := ⟨_, rfl⟩
  have HAM := Lib.hid ham
  obtain ⟨pt, hpt⟩ : ∃ x, Pure.part A S f t = x := ⟨_, rfl⟩
  have HPT := Lib.hid hpt
  clear hpt
  rw [ham] at hga
  clear ham hw
  go_upto_region 2 with fail
  go_cut [10] from 25 to 27 (fun s wx => s = .int .i64 am ∧ wx = V)
  case first =>
    by_cases hlt : mt - S t < S f
    · have e : am = mt - S t := by rw [← HAM.out]; unfold Pure.amt; rw [HMT.out, if_pos hlt]
      go_wp2_with fail
      all_goals
        go_meet
        exact ⟨by first | rw [e] | (exfalso; omega), rfl⟩
    · have e : am = S f := by rw [← HAM.out]; unfold Pure.amt; rw [HMT.out, if_neg hlt]
      go_wp2_with fail
      all_goals
        go_meet
        exact ⟨by first | rw [e] | (exfalso; omega), rfl⟩
  case rest =>
    obtain ⟨rfl, hwc⟩ := hcut
    subst wc
    have p0 := heap_cell HPV.out (j := 0) rfl
    have p1 := heap_cell HPV.out (j := 1) rfl
    go_upto_region 3 with fail
    have hpart : pt = ((decide (f = 0) && decide (am < mt - S t)) || (decide (t = 0) && decide (am < S f))) := by rw [← HPT.out]; unfold Pure.part; rw [HAM.out, HMT.out]
    have HPART := Lib.hid hpart
    clear hpart
    go_cut [11] from 28 to 45 (fun s wx => s = .bool pt ∧ wx = V)
    case first =>
      by_cases hf0 : f = 0
      · have e1 : ((f : Int) == 0) = true := by rw [hf0]; rfl
        have e2 : ((t : Int) == 0) = false := beq_eq_false_iff_ne.2 (by omega)
        have HF0 : Hid (f = 0 ∧ t ≠ 0) := Lib.hid (by omega)
        clear hf0
        by_cases h1 : am < mt - S t
        · go_wp2_with fail
          go_meet
          exact ⟨by rw [HPART.out]; simp [HF0.out.1, h1], rfl⟩
        · go_wp2_with fail
          go_meet
          exact ⟨by rw [HPART.out]; simp [HF0.out.1, HF0.out.2]; omega, rfl⟩
      · have e1 : ((f : Int) == 0) = false := beq_eq_false_iff_ne.2 (by omega)
        have HF0 := Lib.hid hf0
        clear hf0
        by_cases ht0 : t = 0
        · have e2 : ((t : Int) == 0) = true := by rw [ht0]; rfl
          have HT0 := Lib.hid ht0
          clear ht0
          by_cases h1 : am < S f
          · go_wp2_with fail
            go_meet
            exact ⟨by rw [HPART.out]; simp [HF0.out, HT0.out, h1], rfl⟩
          · go_wp2_with fail
            go_meet
            exact ⟨by rw [HPART.out]; simp [HF0.out, HT0.out]; omega, rfl⟩
        · have e2 : ((t : Int) == 0) = false := beq_eq_false_iff_ne.2 (by omega)
          have HT0 := Lib.hid ht0
          clear ht0
          go_wp2_with fail
          go_meet
          exact ⟨by rw [HPART.out]; simp [HF0.out, HT0.out], rfl⟩
    case rest =>
      obtain ⟨rfl, hwc⟩ := hcut
      subst wc
      clear p0 p1
      have HV1 : Hid (w.heap.size + 1 + 1 < V.heap.size) := Lib.hid (Array.getElem?_eq_some_iff.1 HRV.out).1
      go_upto_region 4 with fail
      go_cut [7] from 46 to 58 (fun s wx => s = .bool (decide (0 < am) && !pt) ∧ wx.heap[w.heap.size + 1 + 1]? = some (stepB f t am (Pure.movedS S f t am)) ∧ Below w.heap.size w wx)
      case first =>
        rename_i J K' hJ hK'
        generalize hA : (Act.mk _ _ : Act) = a0
        have m4 : At a0 4 (.pointer (some ⟨w.heap.size, 0, none⟩)) := by rw [← hA]; rfl
        have m5 : At a0 5 (.pointer (some ⟨w.heap.size + 1, 0, none⟩)) := by rw [← hA]; rfl
        have m6 : At a0 6 (.pointer (some ⟨w.heap.size + 1 + 1, 0, none⟩)) := by rw [← hA]; rfl
        have m10 : At a0 10 (.int .i64 am) := by rw [← hA]; rfl
        have m11 : At a0 11 (.bool pt) := by rw [← hA]; rfl
        have hsz : 58 < a0.tmps.size := by rw [← hA]; exact of_decide_eq_true (by kernel_rfl)
        have hfin : ∀ a' w', Kept (7 :: List.range' 46 13) a0 a' → At a' 7 (.bool (decide (0 < am) && !pt)) → (w'.heap[w.heap.size + 1 + 1]? = some (stepB f t am (Pure.movedS S f t am)) ∧ Below w.heap.size w w') → K' a' w' := by
          intro a' w' hI hv7 hL
          refine hK' _ _ (Met.intro (hJ _ _ ⟨a'.tmps.getD 7 undef, a'.tmps.getD 46 undef, a'.tmps.getD 47 undef, a'.tmps.getD 48 undef, a'.tmps.getD 49 undef, a'.tmps.getD 50 undef, a'.tmps.getD 51 undef, a'.tmps.getD 52 undef, a'.tmps.getD 53 undef, a'.tmps.getD 54 undef, a'.tmps.getD 55 undef, a'.tmps.getD 56 undef, a'.tmps.getD 57 undef, a'.tmps.getD 58 undef, ⟨by have g := hv7; unfold At at g; rw [Array.getD_eq_getD_getElem?, g]; rfl, hL⟩, hI.eq.trans ?_⟩))
          rw [← hA]
          kernel_rfl
        have hI : Kept (7 :: List.range' 46 13) a0 a0 := Kept.refl _ _
        clear hA hJ hK' J
        refine with_pan (fun d _ _ _ _ h => by cases d <;> exact h) ?_
        intro hpan
        refine wp_region_rest (fun z => z.heap[w.heap.size]? = some (insB S) ∧ z.heap[w.heap.size + 1]? = some (pourB f t)) (by kernel_rfl) ?_
        obtain ⟨wz, hwz⟩ : ∃ x, V.drew = x := ⟨_, rfl⟩
        change Rest _ _ _ _ _ _ _ (V.drew)
        rw [hwz]
        have hq : Below V.heap.size V wz := by rw [← hwz]; exact (Below.refl _ _).drew
        clear hwz
        have hS : wz.heap[w.heap.size]? = some (insB S) ∧ wz.heap[w.heap.size + 1]? = some (pourB f t) := ⟨heap_lft HIV.out hq, heap_lft HPV.out hq⟩
        refine rest_take (k := 0) (d := 46) (v := pourV f t) hI rfl rfl (by kernel_rfl) (Nat.lt_of_le_of_lt (by decide) hsz) (by kernel_rfl) hpan (by kernel_rfl) hS (wanted_free rfl) (fun z hz => by have n5 := hI.at m5 (by kernel_rfl); have e5 := n5; have f5 := n5.eval; unfold At at e5; have k0 := heap_cell hz.2 (j := 0) rfl; have k1 := heap_cell hz.2 (j := 1) rfl; simp [go_sem, e5, k0, k1]) (fun a' hI' n46' hk => ?_)
        have n46 := n46'
        replace hI := hI'
        clear hk hI' n46'
        obtain ⟨act9, rfl⟩ : ∃ x, x = a' := ⟨_, rfl⟩
        refine rest_take (k := 1) (d := 47) (v := .int .i64 am) hI rfl rfl (by kernel_rfl) (Nat.lt_of_le_of_lt (by decide) hsz) (by kernel_rfl) hpan (by kernel_rfl) hS (wanted_free rfl) (fun z hz => by have n10 := hI.at m10 (by kernel_rfl); have e10 := n10; have f10 := n10.eval; unfold At at e10; simp [go_sem, e10]) (fun a' hI' n47' hk => ?_)
        replace n46 := hk _ _ n46 rfl
        have n47 := n47'
        replace hI := hI'
        clear hk hI' n47'
        obtain ⟨act9, rfl⟩ : ∃ x, x = a' := ⟨_, rfl⟩
        refine rest_take (k := 2) (d := 48) (v := insV S) hI rfl rfl (by kernel_rfl) (Nat.lt_of_le_of_lt (by decide) hsz) (by kernel_rfl) hpan (by kernel_rfl) hS (wanted_free rfl) (fun z hz => by have n4 := hI.at m4 (by kernel_rfl); have e4 := n4; have f4 := n4.eval; unfold At at e4; have k0 := heap_cell hz.1 (j := 0) rfl; have k1 := heap_cell hz.1 (j := 1) rfl; have k2 := heap_cell hz.1 (j := 2) rfl; have k3 := heap_cell hz.1 (j := 3) rfl; simp [go_sem, e4, k0, k1, k2, k3]) (fun a' hI' n48' hk => ?_)
        replace n46 := hk _ _ n46 rfl
        replace n47 := hk _ _ n47 rfl
        have n48 := n48'
        replace hI := hI'
        clear hk hI' n48'
        obtain ⟨act9, rfl⟩ : ∃ x, x = a' := ⟨_, rfl⟩
        refine rest_take (k := 3) (d := 49) (v := pourV f t) hI rfl rfl (by kernel_rfl) (Nat.lt_of_le_of_lt (by decide) hsz) (by kernel_rfl) hpan (by kernel_rfl) hS (wanted_free rfl) (fun z hz => by have n5 := hI.at m5 (by kernel_rfl); have e5 := n5; have f5 := n5.eval; unfold At at e5; have k0 := heap_cell hz.2 (j := 0) rfl; have k1 := heap_cell hz.2 (j := 1) rfl; simp [go_sem, e5, k0, k1]) (fun a' hI' n49' hk => ?_)
        replace n46 := hk _ _ n46 rfl
        replace n47 := hk _ _ n47 rfl
        replace n48 := hk _ _ n48 rfl
        have n49 := n49'
        replace hI := hI'
        clear hk hI' n49'
        obtain ⟨act9, rfl⟩ : ∃ x, x = a' := ⟨_, rfl⟩
        refine rest_take (k := 4) (d := 50) (v := .int .i64 am) hI rfl rfl (by kernel_rfl) (Nat.lt_of_le_of_lt (by decide) hsz) (by kernel_rfl) hpan (by kernel_rfl) hS (wanted_free rfl) (fun z hz => by have n10 := hI.at m10 (by kernel_rfl); have e10 := n10; have f10 := n10.eval; unfold At at e10; simp [go_sem, e10]) (fun a' hI' n50' hk => ?_)
        replace n46 := hk _ _ n46 rfl
        replace n47 := hk _ _ n47 rfl
        replace n48 := hk _ _ n48 rfl
        replace n49 := hk _ _ n49 rfl
        have n50 := n50'
        replace hI := hI'
        clear hk hI' n50'
        obtain ⟨act9, rfl⟩ : ∃ x, x = a' := ⟨_, rfl⟩
        refine rest_take (k := 7) (d := 53) (v := .int .i64 am) hI rfl rfl (by kernel_rfl) (Nat.lt_of_le_of_lt (by decide) hsz) (by kernel_rfl) hpan (by kernel_rfl) hS (wanted_free rfl) (fun z hz => by have n10 := hI.at m10 (by kernel_rfl); have e10 := n10; have f10 := n10.eval; unfold At at e10; simp [go_sem, e10]) (fun a' hI' n53' hk => ?_)
        replace n46 := hk _ _ n46 rfl
        replace n47 := hk _ _ n47 rfl
        replace n48 := hk _ _ n48 rfl
        replace n49 := hk _ _ n49 rfl
        replace n50 := hk _ _ n50 rfl
        have n53 := n53'
        replace hI := hI'
        clear hk hI' n53'
        obtain ⟨act9, rfl⟩ : ∃ x, x = a' := ⟨_, rfl⟩
        refine rest_take (k := 8) (d := 54) (v := .bool (decide (0 < am))) hI rfl rfl (by kernel_rfl) (Nat.lt_of_le_of_lt (by decide) hsz) (by kernel_rfl) hpan (by kernel_rfl) hS (wanted_free rfl) (fun z hz => by have e53 := n53; have f53 := n53.eval; unfold At at e53; simp [go_sem, e53]) (fun a' hI' n54' hk => ?_)
        replace n46 := hk _ _ n46 rfl
        replace n47 := hk _ _ n47 rfl
        replace n48 := hk _ _ n48 rfl
        replace n49 := hk _ _ n49 rfl
        replace n50 := hk _ _ n50 rfl
        replace n53 := hk _ _ n53 rfl
        have n54 := n54'
        replace hI := hI'
        clear hk hI' n54'
        obtain ⟨act9, rfl⟩ : ∃ x, x = a' := ⟨_, rfl⟩
        clear n53
        refine rest_only (k := 5) (by kernel_rfl) (op_call (k := 5) (d := 51) (R := fun v w' => v = insV (Pure.movedS S f t am) ∧ Below wz.heap.size wz w') hI rfl rfl (by kernel_rfl) (Nat.lt_of_le_of_lt (by decide) hsz) (wanted_free rfl) ((moved_any S f t am (by omega) (by omega) hne HS.out (by omega) _).mono fun e w' g => ⟨_, g.1, rfl, g.2⟩) (by have e48 := n48; have f48 := n48.eval; unfold At at e48; have e49 := n49; have f49 := n49.eval; unfold At at e49; have e50 := n50; have f50 := n50.eval; unfold At at e50; simp [go_sem, e48, e49, e50]) ?_)
        intro v w' a' hR hI' n51' hk
        obtain ⟨rfl, hb⟩ := hR
        refine ⟨⟨heap_lft hS.1 hb, heap_lft hS.2 hb⟩, ?_⟩
        replace n46 := hk _ _ n46 rfl
        replace n47 := hk _ _ n47 rfl
        replace n48 := hk _ _ n48 rfl
        replace n49 := hk _ _ n49 rfl
        replace n50 := hk _ _ n50 rfl
        replace n54 := hk _ _ n54 rfl
        have n51 := n51'
        replace hI := hI'
        clear hk hI' n51'
        obtain ⟨act9, rfl⟩ : ∃ x, x = a' := ⟨_, rfl⟩
        replace hS : w'.heap[w.heap.size]? = some (insB S) ∧ w'.heap[w.heap.size + 1]? = some (pourB f t) := ⟨heap_lft hS.1 hb, heap_lft hS.2 hb⟩
        replace hq := below_thn hq hb
        clear hb
        obtain ⟨u1, rfl⟩ : ∃ x, x = w' := ⟨_, rfl⟩
        clear n48
        clear n49
        clear n50
        refine rest_take (k := 6) (d := 52) (v := stepV f t am (Pure.movedS S f t am)) hI rfl rfl (by kernel_rfl) (Nat.lt_of_le_of_lt (by decide) hsz) (by kernel_rfl) hpan (by kernel_rfl) hS (wanted_free rfl) (fun z hz => by have e46 := n46; have f46 := n46.eval; unfold At at e46; have e47 := n47; have f47 := n47.eval; unfold At at e47; have e51 := n51; have f51 := n51.eval; unfold At at e51; simp [go_sem, e46, e47, e51]) (fun a' hI' n52' hk => ?_)
        replace n46 := hk _ _ n46 rfl
        replace n47 := hk _ _ n47 rfl
        replace n54 := hk _ _ n54 rfl
        replace n51 := hk _ _ n51 rfl
        have n52 := n52'
        replace hI := hI'
        clear hk hI' n52'
        obtain ⟨act9, rfl⟩ : ∃ x, x = a' := ⟨_, rfl⟩
        clear n46
        clear n47
        clear n51
        refine rest_take (k := 9) (d := 55) (v := .bool (decide (0 < am))) hI rfl rfl (by kernel_rfl) (Nat.lt_of_le_of_lt (by decide) hsz) (by kernel_rfl) hpan (by kernel_rfl) hS (wanted_free rfl) (fun z hz => by have e54 := n54; have f54 := n54.eval; unfold At at e54; simp [go_sem, e54]) (fun a' hI' n55' hk => ?_)
        replace n54 := hk _ _ n54 rfl
        replace n52 := hk _ _ n52 rfl
        have n55 := n55'
        replace hI := hI'
        clear hk hI' n55'
        obtain ⟨act9, rfl⟩ : ∃ x, x = a' := ⟨_, rfl⟩
        clear n54
        obtain ⟨bo, hbo⟩ : ∃ x, decide (0 < am) = x := ⟨_, rfl⟩
        rw [hbo] at n55
        have hfin' := hfin
        rw [hbo] at hfin'
        clear hfin
        have hfin := hfin'
        clear hfin'
        have hyo := heap_lft HRV.out hq
        have hbo2 := below_thn HVB.out hq
        obtain ⟨Z, hZ⟩ : ∃ Z, (((((((u1.setCell ⟨w.heap.size + 1 + 1, 0, none⟩ (.int .i64 (f : Int))).setCell ⟨w.heap.size + 1 + 1, 1, none⟩ (.int .i64 (t : Int))).setCell ⟨w.heap.size + 1 + 1, 2, none⟩ (.int .i64 am)).setCell ⟨w.heap.size + 1 + 1, 3, none⟩ (.int .i64 (Pure.movedS S f t am 0))).setCell ⟨w.heap.size + 1 + 1, 4, none⟩ (.int .i64 (Pure.movedS S f t am 1))).setCell ⟨w.heap.size + 1 + 1, 5, none⟩ (.int .i64 (Pure.movedS S f t am 2))).setCell ⟨w.heap.size + 1 + 1, 6, none⟩ (.int .i64 (Pure.movedS S f t am 3))) = Z := ⟨_, rfl⟩
        have hyZ : Z.heap[w.heap.size + 1 + 1]? = some (stepB f t am (Pure.movedS S f t am)) := by rw [← hZ]; exact (heap_set (heap_set (heap_set (heap_set (heap_set (heap_set (heap_set hyo 0 _) 1 _) 2 _) 3 _) 4 _) 5 _) 6 _)
        have hbZ : Below w.heap.size w Z := by rw [← hZ]; exact (((((((hbo2.setCell (by dsimp only; omega) _).setCell (by dsimp only; omega) _).setCell (by dsimp only; omega) _).setCell (by dsimp only; omega) _).setCell (by dsimp only; omega) _).setCell (by dsimp only; omega) _).setCell (by dsimp only; omega) _)
        have hSZ : Z.heap[w.heap.size]? = some (insB S) ∧ Z.heap[w.heap.size + 1]? = some (pourB f t) := by rw [← hZ]; exact ⟨((setCell_other (by simp; try omega)).trans ((setCell_other (by simp; try omega)).trans ((setCell_other (by simp; try omega)).trans ((setCell_other (by simp; try omega)).trans ((setCell_other (by simp; try omega)).trans ((setCell_other (by simp; try omega)).trans ((setCell_other (by simp; try omega)).trans hS.1))))))), ((setCell_other (by simp; try omega)).trans ((setCell_other (by simp; try omega)).trans ((setCell_other (by simp; try omega)).trans ((setCell_other (by simp; try omega)).trans ((setCell_other (by simp; try omega)).trans ((setCell_other (by simp; try omega)).trans ((setCell_other (by simp; try omega)).trans hS.2)))))))⟩
        cases bo
        · refine rest_skip (k := 10) (d := 56) hI rfl rfl (by kernel_rfl) (Nat.lt_of_le_of_lt (by decide) hsz) (by kernel_rfl) hpan (by kernel_rfl) hS (unwanted_at rfl rfl n55 rfl) (fun a' hI' n56' hk => ?_)
          replace n52 := hk _ _ n52 rfl
          replace n55 := hk _ _ n55 rfl
          have n56 := n56'
          replace hI := hI'
          clear hk hI' n56'
          obtain ⟨act9, rfl⟩ : ∃ x, x = a' := ⟨_, rfl⟩
          refine rest_skip (k := 11) (d := 57) hI rfl rfl (by kernel_rfl) (Nat.lt_of_le_of_lt (by decide) hsz) (by kernel_rfl) hpan (by kernel_rfl) hS (unwanted_at rfl rfl n55 rfl) (fun a' hI' n57' hk => ?_)
          replace n52 := hk _ _ n52 rfl
          replace n55 := hk _ _ n55 rfl
          replace n56 := hk _ _ n56 rfl
          have n57 := n57'
          replace hI := hI'
          clear hk hI' n57'
          obtain ⟨act9, rfl⟩ : ∃ x, x = a' := ⟨_, rfl⟩
          refine rest_take (k := 12) (d := 58) (v := .bool false) hI rfl rfl (by kernel_rfl) (Nat.lt_of_le_of_lt (by decide) hsz) (by kernel_rfl) hpan (by kernel_rfl) hS (wanted_free rfl) (fun z hz => by have e55 := n55; have f55 := n55.eval; unfold At at e55; simp [go_sem, e55]) (fun a' hI' n58' hk => ?_)
          replace n52 := hk _ _ n52 rfl
          replace n55 := hk _ _ n55 rfl
          replace n56 := hk _ _ n56 rfl
          replace n57 := hk _ _ n57 rfl
          have n58 := n58'
          replace hI := hI'
          clear hk hI' n58'
          obtain ⟨act9, rfl⟩ : ∃ x, x = a' := ⟨_, rfl⟩
          refine rest_only (k := 13) (by kernel_rfl) (op_store (k := 13) rfl rfl (wanted_free rfl) (by have n6 := hI.at m6 (by kernel_rfl); have e6 := n6; have f6 := n6.eval; unfold At at e6; have e52 := n52; have f52 := n52.eval; unfold At at e52; have k0 := heap_cell hyo (j := 0) rfl; have f0 := heap_frozen hyo 0; have k1 := heap_cell hyo (j := 1) rfl; have f1 := heap_frozen hyo 1; have k2 := heap_cell hyo (j := 2) rfl; have f2 := heap_frozen hyo 2; have k3 := heap_cell hyo (j := 3) rfl; have f3 := heap_frozen hyo 3; have k4 := heap_cell hyo (j := 4) rfl; have f4 := heap_frozen hyo 4; have k5 := heap_cell hyo (j := 5) rfl; have f5 := heap_frozen hyo 5; have k6 := heap_cell hyo (j := 6) rfl; have f6 := heap_frozen hyo 6; simp [go_sem, e6, e52, k0, f0, k1, f1, k2, f2, k3, f3, k4, f4, k5, f5, k6, f6]; try rfl) ⟨by rw [hZ]; exact hSZ, ?_⟩)
          rw [hZ]
          replace hS := hSZ
          refine rest_take (k := 14) (d := 7) (v := .bool false) hI rfl rfl (by kernel_rfl) (Nat.lt_of_le_of_lt (by decide) hsz) (by kernel_rfl) hpan (by kernel_rfl) hS (wanted_free rfl) (fun z hz => by have e58 := n58; have f58 := n58.eval; unfold At at e58; simp [go_sem, e58]) (fun a' hI' n7' hk => ?_)
          replace n52 := hk _ _ n52 rfl
          replace n55 := hk _ _ n55 rfl
          replace n56 := hk _ _ n56 rfl
          replace n57 := hk _ _ n57 rfl
          replace n58 := hk _ _ n58 rfl
          have n7 := n7'
          replace hI := hI'
          clear hk hI' n7'
          obtain ⟨act9, rfl⟩ : ∃ x, x = a' := ⟨_, rfl⟩
          refine rest_done (by kernel_rfl) ?_
          exact hfin _ _ hI n7 ⟨hyZ, hbZ⟩
        · refine rest_take (k := 10) (d := 56) (v := .bool pt) hI rfl rfl (by kernel_rfl) (Nat.lt_of_le_of_lt (by decide) hsz) (by kernel_rfl) hpan (by kernel_rfl) hS (wanted_at rfl rfl (n55)) (fun z hz => by have n11 := hI.at m11 (by kernel_rfl); have e11 := n11; have f11 := n11.eval; unfold At at e11; simp [go_sem, e11]) (fun a' hI' n56' hk => ?_)
          replace n52 := hk _ _ n52 rfl
          replace n55 := hk _ _ n55 rfl
          have n56 := n56'
          replace hI := hI'
          clear hk hI' n56'
          obtain ⟨act9, rfl⟩ : ∃ x, x = a' := ⟨_, rfl⟩
          refine rest_take (k := 11) (d := 57) (v := .bool (!pt)) hI rfl rfl (by kernel_rfl) (Nat.lt_of_le_of_lt (by decide) hsz) (by kernel_rfl) hpan (by kernel_rfl) hS (wanted_at rfl rfl (n55)) (fun z hz => by have e56 := n56; have f56 := n56.eval; unfold At at e56; simp [go_sem, e56]) (fun a' hI' n57' hk => ?_)
          replace n52 := hk _ _ n52 rfl
          replace n55 := hk _ _ n55 rfl
          replace n56 := hk _ _ n56 rfl
          have n57 := n57'
          replace hI := hI'
          clear hk hI' n57'
          obtain ⟨act9, rfl⟩ : ∃ x, x = a' := ⟨_, rfl⟩
          refine rest_take (k := 12) (d := 58) (v := .bool (!pt)) hI rfl rfl (by kernel_rfl) (Nat.lt_of_le_of_lt (by decide) hsz) (by kernel_rfl) hpan (by kernel_rfl) hS (wanted_free rfl) (fun z hz => by have e55 := n55; have f55 := n55.eval; unfold At at e55; have e57 := n57; have f57 := n57.eval; unfold At at e57; simp [go_sem, e55, e57]) (fun a' hI' n58' hk => ?_)
          replace n52 := hk _ _ n52 rfl
          replace n55 := hk _ _ n55 rfl
          replace n56 := hk _ _ n56 rfl
          replace n57 := hk _ _ n57 rfl
          have n58 := n58'
          replace hI := hI'
          clear hk hI' n58'
          obtain ⟨act9, rfl⟩ : ∃ x, x = a' := ⟨_, rfl⟩
          refine rest_only (k := 13) (by kernel_rfl) (op_store (k := 13) rfl rfl (wanted_free rfl) (by have n6 := hI.at m6 (by kernel_rfl); have e6 := n6; have f6 := n6.eval; unfold At at e6; have e52 := n52; have f52 := n52.eval; unfold At at e52; have k0 := heap_cell hyo (j := 0) rfl; have f0 := heap_frozen hyo 0; have k1 := heap_cell hyo (j := 1) rfl; have f1 := heap_frozen hyo 1; have k2 := heap_cell hyo (j := 2) rfl; have f2 := heap_frozen hyo 2; have k3 := heap_cell hyo (j := 3) rfl; have f3 := heap_frozen hyo 3; have k4 := heap_cell hyo (j := 4) rfl; have f4 := heap_frozen hyo 4; have k5 := heap_cell hyo (j := 5) rfl; have f5 := heap_frozen hyo 5; have k6 := heap_cell hyo (j := 6) rfl; have f6 := heap_frozen hyo 6; simp [go_sem, e6, e52, k0, f0, k1, f1, k2, f2, k3, f3, k4, f4, k5, f5, k6, f6]; try rfl) ⟨by rw [hZ]; exact hSZ, ?_⟩)
          rw [hZ]
          replace hS := hSZ
          refine rest_take (k := 14) (d := 7) (v := .bool (!pt)) hI rfl rfl (by kernel_rfl) (Nat.lt_of_le_of_lt (by decide) hsz) (by kernel_rfl) hpan (by kernel_rfl) hS (wanted_free rfl) (fun z hz => by have e58 := n58; have f58 := n58.eval; unfold At at e58; simp [go_sem, e58]) (fun a' hI' n7' hk => ?_)
          replace n52 := hk _ _ n52 rfl
          replace n55 := hk _ _ n55 rfl
          replace n56 := hk _ _ n56 rfl
          replace n57 := hk _ _ n57 rfl
          replace n58 := hk _ _ n58 rfl
          have n7 := n7'
          replace hI := hI'
          clear hk hI' n7'
          obtain ⟨act9, rfl⟩ : ∃ x, x = a' := ⟨_, rfl⟩
          refine rest_done (by kernel_rfl) ?_
          exact hfin _ _ hI n7 ⟨hyZ, hbZ⟩
      case rest =>
        obtain ⟨rfl, hr, hb⟩ := hcut
        have HR4 := Lib.hid hr
        have HB4 := Lib.hid hb
        clear hr hb
        have r0 := heap_cell HR4.out (j := 0) rfl
        have r1 := heap_cell HR4.out (j := 1) rfl
        have r2 := heap_cell HR4.out (j := 2) rfl
        have r3 := heap_cell HR4.out (j := 3) rfl
        have r4 := heap_cell HR4.out (j := 4) rfl
        have r5 := heap_cell HR4.out (j := 5) rfl
        have r6 := heap_cell HR4.out (j := 6) rfl
        go_wp2_with fail
        refine bodyPost_ret (v := .tuple #[stepV f t am (Pure.movedS S f t am), .bool (decide (0 < am) && !pt)]) (by simp [results, Try.results28, go_sem, r0, r1, r2, r3, r4, r5, r6]; try rfl) rfl ⟨?_, ?_⟩
        · rw [HAM.out]; unfold Pure.canP; rw [HAM.out, HPT.out]
        · exact HB4.out

end Go.Proofs.Ytjemcmehgkhhlaa
