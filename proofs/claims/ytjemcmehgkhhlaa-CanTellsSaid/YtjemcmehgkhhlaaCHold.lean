/-
  The contracts of slices.Clone at numbers, cans, holding, slices.Index and Contains at pourings, checkPouring, play.
-/
import Derived.Test.YtjemcmehgkhhlaaCPour
import Derived.ArgAppend
import Derived.Lib.SliceRun
namespace Go.Proofs.Ytjemcmehgkhhlaa
open Go.RowKit

def CopyOut (t : TypeId) (k len : Nat) (F : Nat → Int) (w : World) (e : Ending) (w' : World) : Prop :=
  ∃ a cap, e = .returned (.slice a len cap) ∧ OwnNums w' w.heap.size t k a len cap F ∧ Below w.heap.size w w'
set_option maxHeartbeats 1000000 in
set_option maxRecDepth 100000 in
theorem cloneInt_any (a : Option Addr) (len cap : Nat) (F : Nat → Int) (hl : len ≤ 40) (hnil : a = none → len = 0 ∧ cap = 0) (w : World) (h : NumsAt w a (len * 1) F) :
    Calls Try.prog 29 #[.slice a len cap] w (CopyOut 3 1 len F w) := by
  cases a with
  | none =>
    obtain ⟨rfl, rfl⟩ := hnil rfl
    have hnl := Lib.run_eql_slice_nil (P := Try.prog) w 22 3 none 0 0 0 0 Try.underlying22
    simp only [Option.isNone_none] at hnl
    go_enter Try.func29, Try.ntmps29
    go_wp2_with fail
    go_ret
    exact ⟨none, 0, rfl, own_nil _ _ _ _ _, Below.refl _ _⟩
  | some b0 =>
    clear hnil
    by_cases h0 : len = 0
    · subst h0
      clear h
      have hnl := Lib.run_eql_slice_nil (P := Try.prog) w 22 3 (some b0) 0 cap 0 0 Try.underlying22
      simp only [Option.isNone_some] at hnl
      go_enter Try.func29, Try.ntmps29
      go_wp2_with fail
      go_ret
      exact ⟨_, _, rfl, own_empty _ _ _ rfl (Nat.le_refl _) _, below_new _ _⟩
    · obtain ⟨b, off, hb0, _⟩ := h 0 (by omega)
      cases hb0
      have HN : Hid (NumsAt (w.alloc (.cells #[] 3)) (some ⟨b, off, none⟩) (len * 1) F) := Lib.hid (h.alloc _)
      clear h
      obtain ⟨i0, hi, hz0, hz1, hz2⟩ := infoInt
      have hnl := Lib.run_eql_slice_nil (P := Try.prog) w 22 3 (some ⟨b, off, none⟩) len cap 0 0 Try.underlying22
      simp only [Option.isNone_some] at hnl
      go_enter Try.func29, Try.ntmps29
      go_wp2_with (at_builtin; refine wpList_append_grows _ rfl (.tmp 5) (.tmp 6) 22 rfl 3 i0 (.int .i64 0) 1 8 Try.underlying22 hi hz0 hz1 hz2 rfl (by decide) (some ⟨w.heap.size, 0, none⟩) 0 0 [] rfl (by simp) rfl (by intro _ _ _ _ h; simp at h) ⟨b, off, none⟩ len cap (numsCells (len * 1) F) rfl (numsCells_length _ _) (fun j v h => numsCells_hold HN.out h) ?c2 (by omega) (by unfold maxLen; omega) (by omega) ?grow)
      case c2 =>
        intro v hv
        obtain ⟨j, hj⟩ := List.getElem?_of_mem hv
        obtain ⟨_, rfl⟩ := numsCells_at hj
        rfl
      case grow =>
        intro v' w' hown hgrow
        have hown : w'.ownsRow (w.alloc (.cells #[] 3)).heap.size 3 1 v' len (numsCells (len * 1) F) := by simpa using hown
        obtain ⟨a', cap', rfl⟩ : ∃ a' cap', v' = .slice a' len cap' := by
          obtain ⟨_, ⟨rfl, h⟩ | ⟨g, c, cur, rfl, _⟩⟩ := hown
          · exact absurd h h0
          · exact ⟨_, _, rfl⟩
        have HO : Hid (OwnNums w' w.heap.size 3 1 a' len cap' F) := Lib.hid (OwnNums.base hown (by simp))
        have HB : Hid (Below w.heap.size w w') := Lib.hid (((Below.refl _ _).alloc (Nat.le_refl _) _).grown hgrow (by simp) (fun k h => by cases h))
        clear hown hgrow
        go_wp2_with fail
        go_ret
        exact ⟨_, _, rfl, HO.out, HB.out⟩



set_option maxHeartbeats 2000000 in
set_option maxRecDepth 100000 in
theorem cans_any (Bn : Nat) (a : Option Addr) (n c : Nat) (b : Option Addr) (m d : Nat) (k : Int) (l : Option Addr) (ln lc : Nat) (S : Nat → Int) (hn : n ≤ 3) (w : World) (hX : w.heap[Bn]? = some (benchB a n c b m d k l ln lc)) :
    Calls Try.prog 30 #[.pointer (some ⟨Bn, 0, none⟩), insV S] w fun e w' => e = .returned (.slice (some ⟨w.heap.size, 1, none⟩) n 3) ∧ w' = w.alloc (insB S) := by
  have HX := Lib.hid (heap_lft hX (below_new w (insB S)))
  clear hX
  have x0 := heap_cell HX.out (j := 0) rfl
  have hw : IntKind.i64.wrap ((n : Int) + 1) = ((n + 1 : Nat) : Int) := by rw [IntWalk.i64_in _ (by omega)]; omega
  have n1 : (1 : Int) ≤ (n : Int) + 1 := by omega
  have n2 : (n : Int) + 1 ≤ 4 := by omega
  have n3 : (0 : Int) ≤ (n : Int) + 1 := by omega
  have n4 : ((n : Int) + 1).toNat = n + 1 := by omega
  go_enter Try.func30, Try.ntmps30
  go_wp2_with fail
  go_ret
  exact ⟨rfl, rfl⟩

set_option maxHeartbeats 2000000 in
set_option maxRecDepth 100000 in
theorem index_any (a : Option Addr) (len cap : Nat) (X : Nat → Int) (f t : Int) (hl : len ≤ 1000) (w : World) (hX : NumsAt w a (len * 2) X) :
    Calls Try.prog 40 #[.slice a len cap, pourV f t] w fun e w' => e = .returned (.int .i64 (Pure.firstAt (fun j => decide (X (j * 2) = f) && decide (X (j * 2 + 1) = t)) len)) ∧ Below w.heap.size w w' := by
  obtain ⟨W, hW⟩ : ∃ W, w.alloc (pourB f t) = W := ⟨_, rfl⟩
  have HB : Hid (Below w.heap.size w W) := Lib.hid (by rw [← hW]; exact below_new _ _)
  have HP : Hid (W.heap[w.heap.size]? = some (pourB f t)) := Lib.hid (by rw [← hW]; exact heap_top _ _ rfl)
  have HX := Lib.hid (hX.below HB.out)
  clear hX
  go_enter Try.func40, Try.ntmps40
  go_upto_region 1 with fail
  try rw [hW]
  clear hW
  go_wp2_with fail
  go_loopw [5, 8] (fun _ i wr => ∃ j : Nat, j ≤ len ∧ i = .int .i64 j ∧ (∀ q, q < j → (decide (X (q * 2) = f) && decide (X (q * 2 + 1) = t)) = false) ∧ Below W.heap.size W wr) (fun _ i _ => len - (intOf i).toNat)
  case atStart => exact ⟨0, Nat.zero_le _, rfl, fun q hq => by omega, Below.refl _ _⟩
  case round =>
    obtain ⟨j, hj, rfl, hq, hb⟩ := hrel
    have HQ := Lib.hid hq
    have HBr := Lib.hid hb
    have HPr := Lib.hid (heap_lft HP.out hb)
    have HXr := Lib.hid (HX.out.below hb)
    clear hq hb
    by_cases hlt : j < len
    · obtain ⟨g, off, rfl, _⟩ := HXr.out (j * 2) (by omega)
      have n1 : (j : Int) < len := by omega
      have c0 := HXr.out.at (show j * 2 < len * 2 by omega)
      have c1 := nums_row HXr.out (show j * 2 + 1 < len * 2 by omega)
      have p0 := heap_cell HPr.out (j := 0) rfl
      have p1 := heap_cell HPr.out (j := 1) rfl
      by_cases h0 : X (j * 2) = f
      · by_cases h1 : X (j * 2 + 1) = t
        · have HH := Lib.hid (And.intro h0 h1)
          have e0 : (f == X (j * 2)) = true := by simpa using h0.symm
          have e1 : (t == X (j * 2 + 1)) = true := by simpa using h1.symm
          clear h0 h1
          go_upto_region 4 with fail
          have xx0 := among_below c0
          have xx1 := among_below c1
          have xx2 := among_below p0
          have xx3 := among_below p1
          have HSt : Hid (Below wr.heap.size wr wr.drew) := Lib.hid (Below.refl _ _).drew
          have hne : Nonempty (Among (Below wr.heap.size wr)) := ⟨⟨_, HSt.out⟩⟩
          refine wp_region_class (Below wr.heap.size wr) (by kernel_rfl) (by kernel_rfl) HSt.out ?_
          repeat (go_big_quiet_step (fail))
          refine wpQuiet_nil ?_
          intro w8 hx
          have HB8 := Lib.hid (below_thn HBr.out (among_out hx))
          clear hx hne xx0 xx1 xx2 xx3 c0 c1 p0 p1
          go_wp2_with fail
          go_ret
          exact ⟨ret_int (Pure.firstAt_hit hlt HQ.out (by simp [HH.out.1, HH.out.2])).symm, below_thn HB.out HB8.out⟩
        · have HH := Lib.hid h1
          have e0 : (f == X (j * 2)) = true := by simpa using h0.symm
          have e1 : (t == X (j * 2 + 1)) = false := beq_eq_false_iff_ne.2 (Ne.symm h1)
          clear h0 h1
          go_upto_region 4 with fail
          have xx0 := among_below c0
          have xx1 := among_below c1
          have xx2 := among_below p0
          have xx3 := among_below p1
          have HSt : Hid (Below wr.heap.size wr wr.drew) := Lib.hid (Below.refl _ _).drew
          have hne : Nonempty (Among (Below wr.heap.size wr)) := ⟨⟨_, HSt.out⟩⟩
          refine wp_region_class (Below wr.heap.size wr) (by kernel_rfl) (by kernel_rfl) HSt.out ?_
          repeat (go_big_quiet_step (fail))
          refine wpQuiet_nil ?_
          intro w8 hx
          have HB8 := Lib.hid (below_thn HBr.out (among_out hx))
          clear hx hne xx0 xx1 xx2 xx3 c0 c1 p0 p1
          go_wp2_with fail
          go_roundw
          case rel => exact ⟨j + 1, by omega, by go_num, fun q hq => by
            by_cases e : q = j
            · subst e; simp [HH.out]
            · exact HQ.out q (by omega), HB8.out⟩
          case measure => simp [intOf]; omega
      · have HH := Lib.hid h0
        have e0 : (f == X (j * 2)) = false := beq_eq_false_iff_ne.2 (Ne.symm h0)
        clear h0
        go_upto_region 4 with fail
        have xx0 := among_below c0
        have xx1 := among_below c1
        have xx2 := among_below p0
        have xx3 := among_below p1
        have HSt : Hid (Below wr.heap.size wr wr.drew) := Lib.hid (Below.refl _ _).drew
        have hne : Nonempty (Among (Below wr.heap.size wr)) := ⟨⟨_, HSt.out⟩⟩
        refine wp_region_class (Below wr.heap.size wr) (by kernel_rfl) (by kernel_rfl) HSt.out ?_
        repeat (go_big_quiet_step (fail))
        refine wpQuiet_nil ?_
        intro w8 hx
        have HB8 := Lib.hid (below_thn HBr.out (among_out hx))
        clear hx hne xx0 xx1 xx2 xx3 c0 c1 p0 p1
        go_wp2_with fail
        go_roundw
        case rel => exact ⟨j + 1, by omega, by go_num, fun q hq => by
          by_cases e : q = j
          · subst e; simp [HH.out]
          · exact HQ.out q (by omega), HB8.out⟩
        case measure => simp [intOf]; omega
    · obtain rfl : len = j := by omega
      have n1 : ¬ (len : Int) < len := by omega
      go_wp2_with fail
      go_ret
      exact ⟨ret_int (Pure.firstAt_none HQ.out).symm, below_thn HB.out HBr.out⟩
set_option maxHeartbeats 2000000 in
set_option maxRecDepth 100000 in
theorem contains_any (a : Option Addr) (len cap : Nat) (X : Nat → Int) (f t : Int) (hl : len ≤ 1000) (w : World) (hX : NumsAt w a (len * 2) X) (r : Bool) (hr : r = true ↔ ∃ q, q < len ∧ X (q * 2) = f ∧ X (q * 2 + 1) = t) :
    Calls Try.prog 36 #[.slice a len cap, pourV f t] w fun e w' => e = .returned (.bool r) ∧ Below w.heap.size w w' := by
  have HX := Lib.hid (hX.below (below_new w (pourB f t)))
  have hfa := Pure.firstAt_some (q := fun j => decide (X (j * 2) = f) && decide (X (j * 2 + 1) = t)) (len := len)
  obtain ⟨v, hv⟩ : ∃ v, Pure.firstAt (fun j => decide (X (j * 2) = f) && decide (X (j * 2 + 1) = t)) len = v := ⟨_, rfl⟩
  have hrv : decide (0 ≤ v) = r := by
    rw [← hv, hfa, Bool.eq_iff_iff, hr, List.any_eq_true]
    constructor
    · rintro ⟨q, hq, h⟩
      exact ⟨q, List.mem_range.1 hq, by simpa using h⟩
    · rintro ⟨q, hq, h⟩
      exact ⟨q, List.mem_range.2 hq, by simpa using h⟩
  have HV := Lib.hid hv
  have HRV := Lib.hid hrv
  clear hX hfa hv hrv hr
  go_enter Try.func36, Try.ntmps36
  go_wp2_with fail
  refine (index_any a len cap X f t hl _ HX.out).mono ?_
  rintro e w' ⟨rfl, hb⟩
  rw [HV.out]
  have HBB := Lib.hid (below_thn (below_new w (pourB f t)) hb)
  clear hb
  go_wp2_with fail
  go_ret
  exact ⟨ret_bool (by rw [← HRV.out]), HBB.out⟩

set_option maxHeartbeats 4000000 in
set_option maxRecDepth 100000 in
theorem checkPouring_any (Bn : Nat) (a : Option Addr) (n c : Nat) (b : Option Addr) (m d : Nat) (k : Int) (l : Option Addr) (ln lc : Nat) (X : Nat → Int) (f t : Int) (hl : ln ≤ 16) (r : Bool) (hr : r = true ↔ validP n f t) (hP : PourL n ln X) (w : World) (hX : w.heap[Bn]? = some (benchB a n c b m d k l ln lc)) (hL : NumsAt w l (ln * 2) X) :
    Calls Try.prog 27 #[.pointer (some ⟨Bn, 0, none⟩), pourV f t] w fun e w' => e = .returned (.int .i64 (Pure.err r 81)) ∧ Below w.heap.size w w' := by
  obtain ⟨W, hW⟩ : ∃ W, w.alloc (pourB f t) = W := ⟨_, rfl⟩
  have HB : Hid (Below w.heap.size w W) := Lib.hid (by rw [← hW]; exact below_new _ _)
  have HP : Hid (W.heap[w.heap.size]? = some (pourB f t)) := Lib.hid (by rw [← hW]; exact heap_top _ _ rfl)
  have HX := Lib.hid (heap_lft hX HB.out)
  have HL := Lib.hid (hL.below HB.out)
  have hr2 : r = true ↔ ∃ q, q < ln ∧ X (q * 2) = f ∧ X (q * 2 + 1) = t := hr.trans (hP f t).symm
  have HR2 := Lib.hid hr2
  clear hX hL hr hr2 hP
  go_enter Try.func27, Try.ntmps27
  go_upto_region 1 with fail
  try rw [hW]
  clear hW
  have xx0 : ∀ xq : Among (Below W.heap.size W), xq.val.cell? ⟨Bn, 3, none⟩ = some (.slice l ln lc) := fun xq => below_cell xq.ok (heap_cell HX.out rfl)
  have xx1 : ∀ xq : Among (Below W.heap.size W), xq.val.cell? ⟨w.heap.size, 0, none⟩ = some (.int .i64 f) := fun xq => below_cell xq.ok (heap_cell HP.out rfl)
  have xx2 : ∀ xq : Among (Below W.heap.size W), xq.val.cell? ⟨w.heap.size, 1, none⟩ = some (.int .i64 t) := fun xq => below_cell xq.ok (heap_cell HP.out rfl)
  have HC1 : Hid (∀ xq : Among (Below W.heap.size W), Calls Try.prog 36 #[.slice l ln lc, pourV f t] xq.val fun e w' => e = .returned (.bool r) ∧ ∃ y : Among (Below W.heap.size W), w' = y.val) := Lib.hid (fun xq => calls_class ((contains_any l ln lc X f t (by omega) xq.val (HL.out.below xq.ok) r HR2.out).mono fun e w' h => ⟨h.1, xq.ok.trans (h.2.mono xq.ok.size)⟩))
  have HC2 : Hid (∀ xq : Among (Below W.heap.size W), Calls Try.prog 35 #[.bool r, .int .i64 81] xq.val fun e w' => e = .returned (.int .i64 (Pure.err r 81)) ∧ ∃ y : Among (Below W.heap.size W), w' = y.val) := Lib.hid (fun xq => calls_class ((unless_any r 81 xq.val).mono fun e w' h => ⟨h.1, by rw [← h.2]; exact xq.ok⟩))
  have HSt : Hid (Below W.heap.size W W.drew) := Lib.hid (Below.refl _ _).drew
  have hne : Nonempty (Among (Below W.heap.size W)) := ⟨⟨_, HSt.out⟩⟩
  refine wp_region_class (Below W.heap.size W) (by kernel_rfl) (by kernel_rfl) HSt.out ?_
  repeat (go_big_quiet_step ((first | (go_at_call 36; with_reducible exact HC1.out _) | (go_at_call 35; with_reducible exact HC2.out _))))
  refine wpQuiet_nil ?_
  intro w8 hx
  have HB8 := Lib.hid (among_out hx)
  clear hx hne xx0 xx1 xx2
  go_wp2_with fail
  go_ret
  exact ⟨rfl, below_thn HB.out HB8.out⟩

/-- What holding gives. -/
def HoldOut (n : Nat) (A S : Nat → Int) (w : World) (e : Ending) (w' : World) : Prop :=
  ∃ a1 c1 b1 d1, e = .returned (cansV a1 n c1 b1 n d1 (S 0)) ∧ OwnNums w' w.heap.size 3 1 a1 n c1 A ∧ OwnNums w' w.heap.size 3 1 b1 n d1 (fun q => S (q + 1)) ∧ Apart b1 a1 ∧ Below w.heap.size w w'
set_option maxHeartbeats 8000000 in
set_option maxRecDepth 100000 in
theorem holding_any (Bn : Nat) (a : Option Addr) (n c : Nat) (b : Option Addr) (m d : Nat) (k : Int) (l : Option Addr) (ln lc : Nat) (A S : Nat → Int) (hn : n ≤ 3) (hna : a = none → n = 0 ∧ c = 0) (w : World) (hX : w.heap[Bn]? = some (benchB a n c b m d k l ln lc)) (hA : NumsAt w a n A) :
    Calls Try.prog 22 #[.pointer (some ⟨Bn, 0, none⟩), insV S] w (HoldOut n A S w) := by
  obtain ⟨W, hW⟩ : ∃ W, (w.alloc (insB S)).alloc (cansB none 0 0 none 0 0 0) = W := ⟨_, rfl⟩
  have HB : Hid (Below w.heap.size w W) := Lib.hid (by rw [← hW]; exact (below_new _ _).alloc (by simp) _)
  have HI : Hid (W.heap[w.heap.size]? = some (insB S)) := Lib.hid (by rw [← hW]; exact heap_up (heap_top _ _ rfl) _)
  have HR : Hid (W.heap[w.heap.size + 1]? = some (cansB none 0 0 none 0 0 0)) := Lib.hid (by rw [← hW]; exact heap_top _ _ (by simp))
  have HSZ : Hid (W.heap.size = w.heap.size + 2) := Lib.hid (by rw [← hW]; simp)
  have HX := Lib.hid (heap_lft hX HB.out)
  have HA := Lib.hid (hA.below HB.out)
  have HNA := Lib.hid hna
  clear hX hA hna
  go_enter Try.func22, Try.ntmps22
  go_upto_region 1 with fail
  try rw [hW]
  clear hW
  go_cut [] from 5 to 17 (fun wx => ∃ a1 c1 b1 d1, wx.heap[w.heap.size + 1]? = some (cansB a1 n c1 b1 n d1 (S 0)) ∧ OwnNums wx W.heap.size 3 1 a1 n c1 A ∧ OwnNums wx W.heap.size 3 1 b1 n d1 (fun q => S (q + 1)) ∧ Apart b1 a1 ∧ Below w.heap.size w wx)
  case first =>
    rename_i J K' hJ hK'
    generalize hA : (Act.mk _ _ : Act) = a0
    have m0 : At a0 0 (.pointer (some ⟨Bn, 0, none⟩)) := by rw [← hA]; rfl
    have m3 : At a0 3 (.pointer (some ⟨w.heap.size, 0, none⟩)) := by rw [← hA]; rfl
    have m4 : At a0 4 (.pointer (some ⟨w.heap.size + 1, 0, none⟩)) := by rw [← hA]; rfl
    have hsz : 17 < a0.tmps.size := by rw [← hA]; exact of_decide_eq_true (by kernel_rfl)
    have hfin : ∀ a' w', Kept (List.range' 5 13) a0 a' → (∃ a1 c1 b1 d1, w'.heap[w.heap.size + 1]? = some (cansB a1 n c1 b1 n d1 (S 0)) ∧ OwnNums w' W.heap.size 3 1 a1 n c1 A ∧ OwnNums w' W.heap.size 3 1 b1 n d1 (fun q => S (q + 1)) ∧ Apart b1 a1 ∧ Below w.heap.size w w') → K' a' w' := by
      intro a' w' hI hL
      refine hK' _ _ (Met.intro (hJ _ _ ⟨a'.tmps.getD 5 undef, a'.tmps.getD 6 undef, a'.tmps.getD 7 undef, a'.tmps.getD 8 undef, a'.tmps.getD 9 undef, a'.tmps.getD 10 undef, a'.tmps.getD 11 undef, a'.tmps.getD 12 undef, a'.tmps.getD 13 undef, a'.tmps.getD 14 undef, a'.tmps.getD 15 undef, a'.tmps.getD 16 undef, a'.tmps.getD 17 undef, hL, hI.eq.trans ?_⟩))
      rw [← hA]
      kernel_rfl
    have hI : Kept (List.range' 5 13) a0 a0 := Kept.refl _ _
    clear hA hJ hK' J
    refine with_pan (fun d _ _ _ _ h => by cases d <;> exact h) ?_
    intro hpan
    refine wp_region_rest (fun z => z.heap[Bn]? = some (benchB a n c b m d k l ln lc) ∧ z.heap[w.heap.size]? = some (insB S)) (by kernel_rfl) ?_
    obtain ⟨wz, hwz⟩ : ∃ x, W.drew = x := ⟨_, rfl⟩
    change Rest _ _ _ _ _ _ _ (W.drew)
    rw [hwz]
    have hq : Below W.heap.size W wz := by rw [← hwz]; exact (Below.refl _ _).drew
    clear hwz
    have hS : wz.heap[Bn]? = some (benchB a n c b m d k l ln lc) ∧ wz.heap[w.heap.size]? = some (insB S) := ⟨heap_lft HX.out hq, heap_lft HI.out hq⟩
    refine rest_take (k := 0) (d := 5) (v := .pointer (some ⟨Bn, 0, none⟩)) hI rfl rfl (by kernel_rfl) (Nat.lt_of_le_of_lt (by decide) hsz) (by kernel_rfl) hpan (by kernel_rfl) hS (wanted_free rfl) (fun z hz => by have n0 := hI.at m0 (by kernel_rfl); have e0 := n0; have f0 := n0.eval; unfold At at e0; simp [go_sem, e0]) (fun a' hI' n5' hk => ?_)
    have n5 := n5'
    replace hI := hI'
    clear hk hI' n5'
    obtain ⟨act9, rfl⟩ : ∃ x, x = a' := ⟨_, rfl⟩
    refine rest_take (k := 1) (d := 6) (v := .pointer (some ⟨Bn, 0, none⟩)) hI rfl rfl (by kernel_rfl) (Nat.lt_of_le_of_lt (by decide) hsz) (by kernel_rfl) hpan (by kernel_rfl) hS (wanted_free rfl) (fun z hz => by have e5 := n5; have f5 := n5.eval; unfold At at e5; simp [go_sem, e5]) (fun a' hI' n6' hk => ?_)
    replace n5 := hk _ _ n5 rfl
    have n6 := n6'
    replace hI := hI'
    clear hk hI' n6'
    obtain ⟨act9, rfl⟩ : ∃ x, x = a' := ⟨_, rfl⟩
    refine rest_take (k := 2) (d := 7) (v := .pointer (some ⟨Bn, 0, none⟩)) hI rfl rfl (by kernel_rfl) (Nat.lt_of_le_of_lt (by decide) hsz) (by kernel_rfl) hpan (by kernel_rfl) hS (wanted_free rfl) (fun z hz => by have e6 := n6; have f6 := n6.eval; unfold At at e6; simp [go_sem, e6]) (fun a' hI' n7' hk => ?_)
    replace n5 := hk _ _ n5 rfl
    replace n6 := hk _ _ n6 rfl
    have n7 := n7'
    replace hI := hI'
    clear hk hI' n7'
    obtain ⟨act9, rfl⟩ : ∃ x, x = a' := ⟨_, rfl⟩
    refine rest_take (k := 3) (d := 8) (v := .pointer (some ⟨Bn, 0, none⟩)) hI rfl rfl (by kernel_rfl) (Nat.lt_of_le_of_lt (by decide) hsz) (by kernel_rfl) hpan (by kernel_rfl) hS (wanted_free rfl) (fun z hz => by have e7 := n7; have f7 := n7.eval; unfold At at e7; simp [go_sem, e7]) (fun a' hI' n8' hk => ?_)
    replace n5 := hk _ _ n5 rfl
    replace n6 := hk _ _ n6 rfl
    replace n7 := hk _ _ n7 rfl
    have n8 := n8'
    replace hI := hI'
    clear hk hI' n8'
    obtain ⟨act9, rfl⟩ : ∃ x, x = a' := ⟨_, rfl⟩
    refine rest_take (k := 4) (d := 9) (v := .slice a n c) hI rfl rfl (by kernel_rfl) (Nat.lt_of_le_of_lt (by decide) hsz) (by kernel_rfl) hpan (by kernel_rfl) hS (wanted_free rfl) (fun z hz => by have e8 := n8; have f8 := n8.eval; unfold At at e8; have k0 := heap_cell hz.1 (j := 0) rfl; simp [go_sem, e8, k0]) (fun a' hI' n9' hk => ?_)
    replace n5 := hk _ _ n5 rfl
    replace n6 := hk _ _ n6 rfl
    replace n7 := hk _ _ n7 rfl
    replace n8 := hk _ _ n8 rfl
    have n9 := n9'
    replace hI := hI'
    clear hk hI' n9'
    obtain ⟨act9, rfl⟩ : ∃ x, x = a' := ⟨_, rfl⟩
    clear n5
    clear n6
    clear n7
    clear n8
    refine rest_take (k := 6) (d := 11) (v := .pointer (some ⟨Bn, 0, none⟩)) hI rfl rfl (by kernel_rfl) (Nat.lt_of_le_of_lt (by decide) hsz) (by kernel_rfl) hpan (by kernel_rfl) hS (wanted_free rfl) (fun z hz => by have n0 := hI.at m0 (by kernel_rfl); have e0 := n0; have f0 := n0.eval; unfold At at e0; simp [go_sem, e0]) (fun a' hI' n11' hk => ?_)
    replace n9 := hk _ _ n9 rfl
    have n11 := n11'
    replace hI := hI'
    clear hk hI' n11'
    obtain ⟨act9, rfl⟩ : ∃ x, x = a' := ⟨_, rfl⟩
    refine rest_take (k := 7) (d := 12) (v := insV S) hI rfl rfl (by kernel_rfl) (Nat.lt_of_le_of_lt (by decide) hsz) (by kernel_rfl) hpan (by kernel_rfl) hS (wanted_free rfl) (fun z hz => by have n3 := hI.at m3 (by kernel_rfl); have e3 := n3; have f3 := n3.eval; unfold At at e3; have k0 := heap_cell hz.2 (j := 0) rfl; have k1 := heap_cell hz.2 (j := 1) rfl; have k2 := heap_cell hz.2 (j := 2) rfl; have k3 := heap_cell hz.2 (j := 3) rfl; simp [go_sem, e3, k0, k1, k2, k3]) (fun a' hI' n12' hk => ?_)
    replace n9 := hk _ _ n9 rfl
    replace n11 := hk _ _ n11 rfl
    have n12 := n12'
    replace hI := hI'
    clear hk hI' n12'
    obtain ⟨act9, rfl⟩ : ∃ x, x = a' := ⟨_, rfl⟩
    refine rest_take (k := 10) (d := 15) (v := .pointer (some ⟨w.heap.size, 0, none⟩)) hI rfl rfl (by kernel_rfl) (Nat.lt_of_le_of_lt (by decide) hsz) (by kernel_rfl) hpan (by kernel_rfl) hS (wanted_free rfl) (fun z hz => by have n3 := hI.at m3 (by kernel_rfl); have e3 := n3; have f3 := n3.eval; unfold At at e3; simp [go_sem, e3]) (fun a' hI' n15' hk => ?_)
    replace n9 := hk _ _ n9 rfl
    replace n11 := hk _ _ n11 rfl
    replace n12 := hk _ _ n12 rfl
    have n15 := n15'
    replace hI := hI'
    clear hk hI' n15'
    obtain ⟨act9, rfl⟩ : ∃ x, x = a' := ⟨_, rfl⟩
    refine rest_take (k := 11) (d := 16) (v := .int .i64 (S 0)) hI rfl rfl (by kernel_rfl) (Nat.lt_of_le_of_lt (by decide) hsz) (by kernel_rfl) hpan (by kernel_rfl) hS (wanted_free rfl) (fun z hz => by have e15 := n15; have f15 := n15.eval; unfold At at e15; have k0 := heap_cell hz.2 (j := 0) rfl; have k1 := heap_cell hz.2 (j := 1) rfl; have k2 := heap_cell hz.2 (j := 2) rfl; have k3 := heap_cell hz.2 (j := 3) rfl; simp [go_sem, e15, k0]) (fun a' hI' n16' hk => ?_)
    replace n9 := hk _ _ n9 rfl
    replace n11 := hk _ _ n11 rfl
    replace n12 := hk _ _ n12 rfl
    replace n15 := hk _ _ n15 rfl
    have n16 := n16'
    replace hI := hI'
    clear hk hI' n16'
    obtain ⟨act9, rfl⟩ : ∃ x, x = a' := ⟨_, rfl⟩
    clear n15
    refine rest_only (k := 5) (by kernel_rfl) (op_call (k := 5) (d := 10) (R := fun v w' => ∃ a1 c1, v = .slice a1 n c1 ∧ OwnNums w' wz.heap.size 3 1 a1 n c1 A ∧ Below wz.heap.size wz w') hI rfl rfl (by kernel_rfl) (Nat.lt_of_le_of_lt (by decide) hsz) (wanted_free rfl) ((cloneInt_any a n c A (by omega) HNA.out wz (by have h := HA.out.below hq; rwa [Nat.mul_one])).mono fun e w' ⟨a1, c1, g1, g2, g3⟩ => ⟨_, g1, a1, c1, rfl, g2, g3⟩) (by have e9 := n9; have f9 := n9.eval; unfold At at e9; simp [go_sem, e9]) ?_)
    intro v w' a' hR hI' n10' hk
    obtain ⟨a1, c1, rfl, ho1, hb⟩ := hR
    refine ⟨⟨heap_lft hS.1 hb, heap_lft hS.2 hb⟩, ?_⟩
    replace n9 := hk _ _ n9 rfl
    replace n11 := hk _ _ n11 rfl
    replace n12 := hk _ _ n12 rfl
    replace n16 := hk _ _ n16 rfl
    have n10 := n10'
    replace hI := hI'
    clear hk hI' n10'
    obtain ⟨act9, rfl⟩ : ∃ x, x = a' := ⟨_, rfl⟩
    replace hS : w'.heap[Bn]? = some (benchB a n c b m d k l ln lc) ∧ w'.heap[w.heap.size]? = some (insB S) := ⟨heap_lft hS.1 hb, heap_lft hS.2 hb⟩
    have hq1 := below_thn hq hb
    replace ho1 := OwnNums.base ho1 hq.size
    clear hb hq
    have hq := hq1
    clear hq1
    obtain ⟨u1, rfl⟩ : ∃ x, x = w' := ⟨_, rfl⟩
    clear n9
    refine rest_only (k := 8) (by kernel_rfl) (op_call (k := 8) (d := 13) (R := fun v w' => v = .slice (some ⟨u1.heap.size, 1, none⟩) n 3 ∧ w' = u1.alloc (insB S)) hI rfl rfl (by kernel_rfl) (Nat.lt_of_le_of_lt (by decide) hsz) (wanted_free rfl) ((cans_any Bn a n c b m d k l ln lc S hn _ hS.1).mono fun e w' g => ⟨_, g.1, rfl, g.2⟩) (by have e11 := n11; have f11 := n11.eval; unfold At at e11; have e12 := n12; have f12 := n12.eval; unfold At at e12; simp [go_sem, e11, e12]) ?_)
    intro v w' a' hR hI' n13' hk
    obtain ⟨rfl, rfl⟩ := hR
    refine ⟨⟨heap_lft hS.1 (below_new _ _), heap_lft hS.2 (below_new _ _)⟩, ?_⟩
    replace n11 := hk _ _ n11 rfl
    replace n12 := hk _ _ n12 rfl
    replace n16 := hk _ _ n16 rfl
    replace n10 := hk _ _ n10 rfl
    have n13 := n13'
    replace hI := hI'
    clear hk hI' n13'
    obtain ⟨act9, rfl⟩ : ∃ x, x = a' := ⟨_, rfl⟩
    clear n11
    clear n12
    have hb := below_new u1 (insB S)
    have hns : NumsAt (u1.alloc (insB S)) (some ⟨u1.heap.size, 1, none⟩) n (fun q => S (q + 1)) := fun j hj => ⟨u1.heap.size, 1, rfl, by rw [Nat.add_comm 1 j]; exact ins_cell (heap_top u1 (insB S) rfl) (by omega)⟩
    replace hS : (u1.alloc (insB S)).heap[Bn]? = some (benchB a n c b m d k l ln lc) ∧ (u1.alloc (insB S)).heap[w.heap.size]? = some (insB S) := ⟨heap_lft hS.1 hb, heap_lft hS.2 hb⟩
    have hq1 := below_thn hq hb
    replace ho1 := ho1.below hb
    clear hb hq
    have hq := hq1
    clear hq1
    obtain ⟨u2, hu2⟩ : ∃ x, u1.alloc (insB S) = x := ⟨_, rfl⟩
    rw [hu2] at hq ho1 hS hns ⊢
    clear hu2
    refine rest_only (k := 9) (by kernel_rfl) (op_call (k := 9) (d := 14) (R := fun v w' => ∃ b1 d1, v = .slice b1 n d1 ∧ OwnNums w' u2.heap.size 3 1 b1 n d1 (fun q => S (q + 1)) ∧ Below u2.heap.size u2 w') hI rfl rfl (by kernel_rfl) (Nat.lt_of_le_of_lt (by decide) hsz) (wanted_free rfl) ((cloneInt_any (some ⟨u1.heap.size, 1, none⟩) n 3 (fun q => S (q + 1)) (by omega) (fun e => by cases e) u2 (by rwa [Nat.mul_one])).mono fun e w' ⟨a1, c1, g1, g2, g3⟩ => ⟨_, g1, a1, c1, rfl, g2, g3⟩) (by have e13 := n13; have f13 := n13.eval; unfold At at e13; simp [go_sem, e13]) ?_)
    intro v w' a' hR hI' n14' hk
    obtain ⟨b1, d1, rfl, ho2, hb⟩ := hR
    refine ⟨⟨heap_lft hS.1 hb, heap_lft hS.2 hb⟩, ?_⟩
    replace n16 := hk _ _ n16 rfl
    replace n10 := hk _ _ n10 rfl
    replace n13 := hk _ _ n13 rfl
    have n14 := n14'
    replace hI := hI'
    clear hk hI' n14'
    obtain ⟨act9, rfl⟩ : ∃ x, x = a' := ⟨_, rfl⟩
    have hap : Apart b1 a1 := fun x y hx hy e => (ho1.apart ho2) y x hy hx e.symm
    replace hS : w'.heap[Bn]? = some (benchB a n c b m d k l ln lc) ∧ w'.heap[w.heap.size]? = some (insB S) := ⟨heap_lft hS.1 hb, heap_lft hS.2 hb⟩
    have hq1 := below_thn hq hb
    replace ho1 := ho1.below hb
    replace ho2 := OwnNums.base ho2 hq.size
    clear hb hq
    have hq := hq1
    clear hq1
    obtain ⟨u3, rfl⟩ : ∃ x, x = w' := ⟨_, rfl⟩
    have hsz2 := HSZ.out
    have hro := heap_lft HR.out hq
    clear n13
    refine rest_take (k := 12) (d := 17) (v := cansV a1 n c1 b1 n d1 (S 0)) hI rfl rfl (by kernel_rfl) (Nat.lt_of_le_of_lt (by decide) hsz) (by kernel_rfl) hpan (by kernel_rfl) hS (wanted_free rfl) (fun z hz => by have e10 := n10; have f10 := n10.eval; unfold At at e10; have e14 := n14; have f14 := n14.eval; unfold At at e14; have e16 := n16; have f16 := n16.eval; unfold At at e16; simp [go_sem, e10, e14, e16]) (fun a' hI' n17' hk => ?_)
    replace n16 := hk _ _ n16 rfl
    replace n10 := hk _ _ n10 rfl
    replace n14 := hk _ _ n14 rfl
    have n17 := n17'
    replace hI := hI'
    clear hk hI' n17'
    obtain ⟨act9, rfl⟩ : ∃ x, x = a' := ⟨_, rfl⟩
    obtain ⟨Z, hZ⟩ : ∃ Z, ((u3.setCell ⟨w.heap.size + 1, 0, none⟩ (.slice a1 n c1)).setCell ⟨w.heap.size + 1, 1, none⟩ (.slice b1 n d1)).setCell ⟨w.heap.size + 1, 2, none⟩ (.int .i64 (S 0)) = Z := ⟨_, rfl⟩
    have hrZ : Z.heap[w.heap.size + 1]? = some (cansB a1 n c1 b1 n d1 (S 0)) := by rw [← hZ]; exact heap_set (heap_set (heap_set hro 0 _) 1 _) 2 _
    have hSZ : Z.heap[Bn]? = some (benchB a n c b m d k l ln lc) ∧ Z.heap[w.heap.size]? = some (insB S) := by
      have hne : Bn ≠ w.heap.size + 1 := fun e => by have h := HX.out; rw [e, HR.out] at h; simp at h
      rw [← hZ]
      exact ⟨(setCell_other hne).trans ((setCell_other hne).trans ((setCell_other hne).trans hS.1)), (setCell_other (by simp)).trans ((setCell_other (by simp)).trans ((setCell_other (by simp)).trans hS.2))⟩
    have h1Z : OwnNums Z W.heap.size 3 1 a1 n c1 A := by rw [← hZ]; exact ((ho1.set (by dsimp only; omega) _).set (by dsimp only; omega) _).set (by dsimp only; omega) _
    have h2Z : OwnNums Z W.heap.size 3 1 b1 n d1 (fun q => S (q + 1)) := by rw [← hZ]; exact ((ho2.set (by dsimp only; omega) _).set (by dsimp only; omega) _).set (by dsimp only; omega) _
    have hbZ : Below w.heap.size w Z := by rw [← hZ]; exact (((below_thn HB.out hq).setCell (by dsimp only; omega) _).setCell (by dsimp only; omega) _).setCell (by dsimp only; omega) _
    refine rest_only (k := 13) (by kernel_rfl) (op_store (k := 13) rfl rfl (wanted_free rfl) (by have n4 := hI.at m4 (by kernel_rfl); have e4 := n4; have f4 := n4.eval; unfold At at e4; have e17 := n17; have f17 := n17.eval; unfold At at e17; have k0 := heap_cell hro (j := 0) rfl; have f0 := heap_frozen hro 0; have k1 := heap_cell hro (j := 1) rfl; have f1 := heap_frozen hro 1; have k2 := heap_cell hro (j := 2) rfl; have f2 := heap_frozen hro 2; simp [go_sem, e4, e17, k0, f0, k1, f1, k2, f2]; try rfl) ⟨by rw [hZ]; exact hSZ, ?_⟩)
    refine rest_done (by kernel_rfl) ?_
    rw [hZ]
    exact hfin _ _ hI ⟨a1, c1, b1, d1, hrZ, h1Z, h2Z, hap, hbZ⟩
  case rest =>
    obtain ⟨U, rfl⟩ : ∃ x, x = wc := ⟨_, rfl⟩
    obtain ⟨a1, c1, b1, d1, hr, h1, h2, hap, hb⟩ := hcut
    have r0 := heap_cell hr (j := 0) rfl
    have r1 := heap_cell hr (j := 1) rfl
    have r2 := heap_cell hr (j := 2) rfl
    have HH := Lib.hid (And.intro h1 (And.intro h2 (And.intro hap hb)))
    clear h1 h2 hap hb hr
    go_wp2_with fail
    have hsz := HSZ.out
    exact bodyPost_ret (v := cansV a1 n c1 b1 n d1 (S 0)) (by simp [results, Try.results22, go_sem, r0, r1, r2]; try rfl) rfl ⟨a1, c1, b1, d1, rfl, OwnNums.base HH.out.1 (by omega), OwnNums.base HH.out.2.1 (by omega), HH.out.2.2.1, HH.out.2.2.2⟩

end Go.Proofs.Ytjemcmehgkhhlaa
