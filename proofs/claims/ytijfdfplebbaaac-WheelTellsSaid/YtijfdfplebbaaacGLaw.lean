/-
  WheelTells: the specification's copies and comparisons, and the law's walk.
-/
import Derived.Test.YtijfdfplebbaaacGSame
namespace Go.Proofs.Ytijfdfplebbaaac
open Go.RowKit

theorem rGreat_any (a : Option Addr) (n c : Nat) (w : World) : Calls Try.prog 4 #[wheelsV a n c] w fun e w' => e = .returned (.bool (decide ((20 : Int) < n))) ∧ Below w.heap.size w w' := by
  go_enter Try.func4, Try.ntmps4
  go_wp2_with fail
  go_ret
  exact ⟨rfl, below_new _ _⟩
/-- What TwinWheels answers. -/
def TwinOut (n : Nat) (F : Nat → Int) (w : World) (e : Ending) (w' : World) : Prop := ∃ a' c', e = .returned (wheelsV a' n c') ∧ OwnNums w' w.heap.size 3 1 a' n c' F ∧ Below w.heap.size w w'
set_option maxHeartbeats 4000000 in
set_option maxRecDepth 100000 in
theorem rTwin_any (a : Option Addr) (n c : Nat) (F : Nat → Int) (hn : n ≤ 20) (hnil : a = none → n = 0) (w : World) (hF : NumsAt w a n F) :
    Calls Try.prog 5 #[wheelsV a n c] w (TwinOut n F w) := by
  obtain ⟨W, hW⟩ : ∃ W, (w.alloc (wheelsB a n c)).alloc (wheelsB none 0 0) = W := ⟨_, rfl⟩
  have HB0 : Hid (Below w.heap.size w W) := Lib.hid (by rw [← hW]; exact (below_new _ _).alloc (by simp) _)
  have HX : Hid (W.heap[w.heap.size]? = some (wheelsB a n c)) := Lib.hid (by rw [← hW]; exact heap_up (heap_top _ _ rfl) _)
  have HT : Hid (W.heap[w.heap.size + 1]? = some (wheelsB none 0 0)) := Lib.hid (by rw [← hW]; exact heap_top _ _ (by simp))
  have HZ : Hid (W.heap.size = w.heap.size + 2) := Lib.hid (by rw [← hW]; simp)
  have hFF := hF.below HB0.out
  obtain ⟨Y, hY⟩ : ∃ Y, W.alloc (.cells #[] 3) = Y := ⟨_, rfl⟩
  have hby : Below W.heap.size W Y := by rw [← hY]; exact below_new _ _
  have hoe : OwnNums Y W.heap.size 3 1 (some ⟨W.heap.size, 0, none⟩) 0 0 F := by rw [← hY]; exact own_empty _ _ _ rfl (Nat.le_refl _) _
  obtain ⟨i0, hi0, hz0, hz1, hz2⟩ := infoInt
  obtain ⟨a2, c2, Z, hr, hol, _, hbe, _⟩ := app_own Y W.heap.size 3 22 22 1 8 i0 _ Try.underlying22 hi0 hz0 hz1 hz2 rfl (by decide) (by decide) hoe a n c F (by simpa using hFF.below hby) hnil (by omega) (by omega) hby.size
  rw [Nat.zero_add] at hr hol
  have HO : Hid (OwnNums Z W.heap.size 3 1 a2 n c2 F) := Lib.hid (hol.congr (fun q hq => by simp [joinF]))
  have hbz : Below W.heap.size W Z := hby.trans hbe
  have HBZ := Lib.hid (below_thn HB0.out hbz)
  have HTZ := Lib.hid (heap_lft HT.out hbz)
  rw [← hY] at hr
  have HAR := Lib.hid hr
  have x0 := cell_up (heap_cell HX.out (j := 0) rfl) (.cells #[] 3)
  have t0 := heap_cell HTZ.out (j := 0) rfl
  have f0 := heap_frozen HTZ.out 0
  clear hF hFF hY hby hoe hi0 hz0 hz1 hz2 hr hol hbe hbz hnil
  go_enter Try.func5, Try.ntmps5
  go_upto_region 1 with fail
  try rw [hW]
  clear hW
  go_wp2_with (first | (at_builtin; refine Lib.wpList_append_run _ rfl _ _ _ _ rfl _ _ rfl rfl _ _ HAR.out ?_) | go_in)
  refine bodyPost_ret (v := wheelsV a2 n c2) (by simp [results, Try.results5, go_sem, t0]; try rfl) rfl ⟨a2, c2, rfl, ?_, ?_⟩
  · have hz := HZ.out
    refine OwnNums.base (base := W.heap.size) ?_ (by omega)
    repeat (first | with_reducible exact HO.out | with_reducible refine OwnNums.set ?_ (by dsimp only; omega) _)
  · repeat (first | with_reducible exact HBZ.out | with_reducible refine Below.setCell ?_ (by simp) _)
set_option maxHeartbeats 2000000 in
theorem sameWheels_any (a a' : Option Addr) (n c c' : Nat) (F : Nat → Int) (hn : n ≤ 20) (w : World) (hF : NumsAt w a n F) (hF' : NumsAt w a' n F) :
    Calls Try.prog 14 #[wheelsV a n c, wheelsV a' n c'] w fun e w' => e = .returned (.bool true) ∧ Below w.heap.size w w' := by
  obtain ⟨W, hW⟩ : ∃ W, (w.alloc (wheelsB a n c)).alloc (wheelsB a' n c') = W := ⟨_, rfl⟩
  have HB0 : Hid (Below w.heap.size w W) := Lib.hid (by rw [← hW]; exact (below_new _ _).alloc (by simp) _)
  have HX : Hid (W.heap[w.heap.size]? = some (wheelsB a n c)) := Lib.hid (by rw [← hW]; exact heap_up (heap_top _ _ rfl) _)
  have HY : Hid (W.heap[w.heap.size + 1]? = some (wheelsB a' n c')) := Lib.hid (by rw [← hW]; exact heap_top _ _ (by simp))
  have HA := Lib.hid (And.intro (hF.below HB0.out) (hF'.below HB0.out))
  clear hF hF'
  have x0 := heap_cell HX.out (j := 0) rfl
  have y0 := heap_cell HY.out (j := 0) rfl
  go_enter Try.func14, Try.ntmps14
  go_upto_region 1 with fail
  try rw [hW]
  clear hW
  go_wp2_with fail
  refine (sameInts_any a a' n c c' F (by omega) _ HA.out.1 HA.out.2).mono ?_
  rintro e u ⟨rfl, hb⟩
  have HBu := Lib.hid (below_thn HB0.out hb)
  clear hb
  go_wp2_with fail
  go_ret
  exact ⟨rfl, HBu.out⟩
set_option maxHeartbeats 4000000 in
set_option maxRecDepth 100000 in
theorem sameTrains_any (la la' : Option Addr) (ln lc lc' : Nat) (L : Nat → Int) (hl : ln ≤ 20) (w : World) (h : NumsAt w la (ln * 2) L) (h' : NumsAt w la' (ln * 2) L) :
    Calls Try.prog 15 #[.slice la ln lc, .slice la' ln lc'] w fun e w' => e = .returned (.bool true) ∧ Below w.heap.size w w' := by
  have HP := Lib.hid h
  have HQ := Lib.hid h'
  clear h h'
  go_enter Try.func15, Try.ntmps15
  go_wp2_with fail
  go_loopw [5] (fun i wr => ∃ k : Nat, k ≤ ln ∧ i = .int .i64 k ∧ Below w.heap.size w wr) (fun i _ => ln - (intOf i).toNat)
  case atStart => exact ⟨0, Nat.zero_le _, rfl, Below.refl _ _⟩
  case round =>
    obtain ⟨k, hk, rfl, hb⟩ := hrel
    have HBa := Lib.hid hb
    have HPP := Lib.hid (HP.out.below hb)
    have HQQ := Lib.hid (HQ.out.below hb)
    clear hb
    by_cases hk1 : k < ln
    · obtain ⟨b, off, h9, -⟩ := HPP.out (k * 2) (by omega)
      obtain ⟨b', off', h8, -⟩ := HQQ.out (k * 2) (by omega)
      subst h9
      subst h8
      have n1 : (k : Int) < ln := by omega
      have p0 := HPP.out.at (show k * 2 < ln * 2 by omega)
      have p1 := nums_row HPP.out (show k * 2 + 1 < ln * 2 by omega)
      have q0 := HQQ.out.at (show k * 2 < ln * 2 by omega)
      have q1 := nums_row HQQ.out (show k * 2 + 1 < ln * 2 by omega)
      go_upto_region 6 with fail
      have xx0 := among_below p0
      have xx1 := among_below p1
      have xx2 := among_below q0
      have xx3 := among_below q1
      have HSt : Hid (Below wr.heap.size wr wr.drew) := Lib.hid (Below.refl _ _).drew
      have hne : Nonempty (Among (Below wr.heap.size wr)) := ⟨⟨_, HSt.out⟩⟩
      refine wp_region_class (Below wr.heap.size wr) (by kernel_rfl) (by kernel_rfl) HSt.out ?_
      repeat (go_big_quiet_step (fail))
      refine wpQuiet_nil ?_
      intro w8 hx
      have HB8 := Lib.hid (below_thn HBa.out (among_out hx))
      clear hx hne xx0 xx1 xx2 xx3 p0 p1 q0 q1
      go_wp2_with fail
      go_roundw
      case rel => exact ⟨k + 1, by omega, by go_num, HB8.out⟩
      case measure => simp [intOf]; omega
    · obtain rfl : k = ln := by omega
      go_wp2_with fail
      go_ret
      exact ⟨rfl, HBa.out⟩

set_option maxHeartbeats 400000000 in
set_option maxRecDepth 100000 in
theorem tells_walk (a : Option Addr) (n c : Nat) (F : Nat → Int) (la : Option Addr) (ln lc : Nat) (L : Nat → Int) (hnil : a = none → n = 0) (hlnil : la = none → ln = 0) (hcap : ln ≤ lc) (hw : ∀ j, j < ln * 2 → (Lit.int .i64 (L j)).wf = true) (w : World) (hF : NumsAt w a n F) (hL : NumsAt w la (ln * 2) L) :
    Calls Try.prog 3 #[wheelsV a n c, .slice la ln lc] w fun e w' => e = .returned (.bool true) ∧ Below w.heap.size w w' := by
  obtain ⟨W, hW⟩ : ∃ W, w.alloc (wheelsB a n c) = W := ⟨_, rfl⟩
  have HB : Hid (Below w.heap.size w W) := Lib.hid (by rw [← hW]; exact below_new _ _)
  have HX : Hid (W.heap[w.heap.size]? = some (wheelsB a n c)) := Lib.hid (by rw [← hW]; exact heap_top _ _ rfl)
  have HF := Lib.hid (hF.below HB.out)
  have HL := Lib.hid (hL.below HB.out)
  have HNN := Lib.hid (And.intro (And.intro hnil hlnil) (And.intro hcap hw))
  clear hF hL hnil hlnil hcap hw
  have x0 := heap_cell HX.out (j := 0) rfl
  go_enter Try.func3, Try.ntmps3
  go_upto_region 1 with fail
  try rw [hW]
  clear hW
  go_wp2_with fail
  refine (rGreat_any a n c _).mono ?_
  rintro e1 W1 ⟨rfl, hb⟩
  have HXW1 := Lib.hid (heap_lft HX.out hb)
  have HBW1 := Lib.hid (below_thn HB.out hb)
  have HFW1 := Lib.hid (HF.out.below hb)
  have HLW1 := Lib.hid (HL.out.below hb)
  clear hb x0
  obtain ⟨gr, hgr⟩ : ∃ q, decide ((20 : Int) < n) = q := ⟨_, rfl⟩
  rw [hgr]
  have HGR := Lib.hid hgr
  clear hgr
  cases gr
  rotate_left
  · go_wp2_with fail
    go_ret
    exact ⟨rfl, HBW1.out⟩
  by_cases hl50 : (10 : Int) < ln
  · go_wp2_with fail
    go_ret
    exact ⟨rfl, HBW1.out⟩
  have HS : Hid (n ≤ 20 ∧ ln ≤ 10) := Lib.hid (by have h := of_decide_eq_false HGR.out; omega)
  have hl51 : (ln : Int) ≤ 10 := by omega
  have x0 := heap_cell HXW1.out (j := 0) rfl
  go_wp2_with fail
  refine (rTwin_any a n c F HS.out.1 HNN.out.1.1 _ HFW1.out).mono ?_
  rintro e1 W2 ⟨a1, c1, rfl, ho, hb⟩
  clear x0 hl50
  have HXW2 := Lib.hid (heap_lft HXW1.out hb)
  have HBW2 := Lib.hid (below_thn HBW1.out hb)
  have HFW2 := Lib.hid (HFW1.out.below hb)
  have HLW2 := Lib.hid (HLW1.out.below hb)
  have HOW2 := Lib.hid ho
  clear hb ho
  obtain ⟨Y, hY⟩ : ∃ Y, W2.alloc (.cells #[] 55) = Y := ⟨_, rfl⟩
  have hby : Below W2.heap.size W2 Y := by rw [← hY]; exact below_new _ _
  have hoe : OwnNums Y W2.heap.size 55 2 (some ⟨W2.heap.size, 0, none⟩) 0 0 L := by rw [← hY]; exact own_empty _ _ _ rfl (Nat.le_refl _) _
  obtain ⟨i0, hi0, hz0, hz1, hz2⟩ := infoPair
  obtain ⟨al, cl, Z, hr, hol, _, hbe, _⟩ := app_own Y W2.heap.size 55 25 25 2 16 i0 _ Try.underlying25 hi0 hz0 hz1 hz2 rfl (by decide) (by decide) hoe la ln lc L (HLW2.out.below hby) HNN.out.1.2 (by omega) (by have := HS.out; omega) hby.size
  rw [Nat.zero_add] at hr hol
  have HLIZ : Hid (OwnNums Z W2.heap.size 55 2 al ln cl L) := Lib.hid (hol.congr (fun q hq => by simp [joinF]))
  have hbz : Below W2.heap.size W2 Z := hby.trans hbe
  rw [← hY] at hr
  have HAR := Lib.hid hr
  have HXZ := Lib.hid (heap_lft HXW2.out hbz)
  have HBZ := Lib.hid (below_thn HBW2.out hbz)
  have HFZ := Lib.hid (HFW2.out.below hbz)
  have HLZ := Lib.hid (HLW2.out.below hbz)
  have HOZ := Lib.hid (HOW2.out.below hbz)
  have HLC : Hid (ln ≤ cl) := Lib.hid HLIZ.out.le_cap
  clear hY hby hoe hi0 hz0 hz1 hz2 hr hol hbe hbz
  go_upto_region 4 with (first | (at_builtin; refine Lib.wpList_append_run _ rfl _ _ _ _ rfl _ _ rfl rfl _ _ HAR.out ?_) | go_in)
  obtain ⟨V0, hV0⟩ : ∃ x, Z.alloc (wheelsB a1 n c1) = x := ⟨_, rfl⟩
  have hb : Below Z.heap.size Z V0 := by rw [← hV0]; exact below_new _ _
  have HTV0 : Hid (V0.heap[Z.heap.size]? = some (wheelsB a1 n c1)) := Lib.hid (by rw [← hV0]; exact heap_top _ _ rfl)
  have HXV0 := Lib.hid (heap_lft HXZ.out hb)
  have HFV0 := Lib.hid (HFZ.out.below hb)
  have HLV0 := Lib.hid (HLZ.out.below hb)
  have HOV0 := Lib.hid (HOZ.out.below hb)
  have HLIV0 := Lib.hid (HLIZ.out.below hb)
  have HBV0 := Lib.hid (below_thn HBZ.out hb)
  try rw [hV0]
  clear hV0 hb
  obtain ⟨code, hcode⟩ : ∃ z, Pure.gearC n F ln L = z := ⟨_, rfl⟩
  obtain ⟨rn, hrn⟩ : ∃ z, Pure.ratN n F ln L = z := ⟨_, rfl⟩
  obtain ⟨rd, hrd⟩ : ∃ z, Pure.ratD n F ln L = z := ⟨_, rfl⟩
  obtain ⟨hu, hhu⟩ : ∃ z, Pure.hunC n F ln L = z := ⟨_, rfl⟩
  obtain ⟨ag, hag⟩ : ∃ z, Pure.agaC n F ln L = z := ⟨_, rfl⟩
  have HE := Lib.hid (And.intro hcode (And.intro (And.intro hrn hrd) (And.intro hhu hag)))
  clear hcode hrn hrd hhu hag
  have x0 := heap_cell HTV0.out (j := 0) rfl
  have hcA := ratioTop_any a1 n c1 F al ln cl L HS.out.1 HS.out.2 HLC.out HNN.out.2.2 V0 (by have h := HOV0.out.nums; rwa [Nat.mul_one] at h) HLIV0.out.nums
  rw [HE.out.1, HE.out.2.1.1, HE.out.2.1.2] at hcA
  have HCA := Lib.hid hcA
  clear hcA
  go_wp2_with fail
  refine HCA.out.mono ?_
  rintro e1 PA ⟨rfl, hb⟩
  clear x0
  have HXPA := Lib.hid (heap_lft HXV0.out hb)
  have HTPA := Lib.hid (heap_lft HTV0.out hb)
  have HFPA := Lib.hid (HFV0.out.below hb)
  have HLPA := Lib.hid (HLV0.out.below hb)
  have HOPA := Lib.hid (HOV0.out.below hb)
  have HLIPA := Lib.hid (HLIV0.out.below hb)
  have HBPA := Lib.hid (below_thn HBV0.out hb)
  clear hb
  go_upto_region 5 with fail
  obtain ⟨VA, hVA⟩ : ∃ x, PA.alloc (partB rn rd) = x := ⟨_, rfl⟩
  have hb : Below PA.heap.size PA VA := by rw [← hVA]; exact below_new _ _
  have HRAVA : Hid (VA.heap[PA.heap.size]? = some (partB rn rd)) := Lib.hid (by rw [← hVA]; exact heap_top _ _ rfl)
  have HXVA := Lib.hid (heap_lft HXPA.out hb)
  have HTVA := Lib.hid (heap_lft HTPA.out hb)
  have HFVA := Lib.hid (HFPA.out.below hb)
  have HLVA := Lib.hid (HLPA.out.below hb)
  have HOVA := Lib.hid (HOPA.out.below hb)
  have HLIVA := Lib.hid (HLIPA.out.below hb)
  have HBVA := Lib.hid (below_thn HBPA.out hb)
  try rw [hVA]
  clear hVA hb
  have x0 := heap_cell HXVA.out (j := 0) rfl
  have hcB := rRatioTop_any a n c F la ln lc L HS.out.1 HS.out.2 VA HFVA.out HLVA.out
  rw [HE.out.1, HE.out.2.1.1, HE.out.2.1.2] at hcB
  have HCB := Lib.hid hcB
  clear hcB
  go_wp2_with fail
  refine HCB.out.mono ?_
  rintro e1 PB ⟨rfl, hb⟩
  clear x0
  have HXPB := Lib.hid (heap_lft HXVA.out hb)
  have HTPB := Lib.hid (heap_lft HTVA.out hb)
  have HRAPB := Lib.hid (heap_lft HRAVA.out hb)
  have HFPB := Lib.hid (HFVA.out.below hb)
  have HLPB := Lib.hid (HLVA.out.below hb)
  have HOPB := Lib.hid (HOVA.out.below hb)
  have HLIPB := Lib.hid (HLIVA.out.below hb)
  have HBPB := Lib.hid (below_thn HBVA.out hb)
  clear hb
  go_upto_region 6 with fail
  obtain ⟨VB, hVB⟩ : ∃ x, PB.alloc (partB rn rd) = x := ⟨_, rfl⟩
  have hb : Below PB.heap.size PB VB := by rw [← hVB]; exact below_new _ _
  have HRBVB : Hid (VB.heap[PB.heap.size]? = some (partB rn rd)) := Lib.hid (by rw [← hVB]; exact heap_top _ _ rfl)
  have HXVB := Lib.hid (heap_lft HXPB.out hb)
  have HTVB := Lib.hid (heap_lft HTPB.out hb)
  have HRAVB := Lib.hid (heap_lft HRAPB.out hb)
  have HFVB := Lib.hid (HFPB.out.below hb)
  have HLVB := Lib.hid (HLPB.out.below hb)
  have HOVB := Lib.hid (HOPB.out.below hb)
  have HLIVB := Lib.hid (HLIPB.out.below hb)
  have HBVB := Lib.hid (below_thn HBPB.out hb)
  try rw [hVB]
  clear hVB hb
  have x0 := heap_cell HTVB.out (j := 0) rfl
  have hcC := huntsTop_any a1 n c1 F al ln cl L HS.out.1 HS.out.2 HLC.out HNN.out.2.2 VB (by have h := HOVB.out.nums; rwa [Nat.mul_one] at h) HLIVB.out.nums
  rw [HE.out.1, HE.out.2.2.1] at hcC
  have HCC := Lib.hid hcC
  clear hcC
  go_wp2_with fail
  refine HCC.out.mono ?_
  rintro e1 PC ⟨rfl, hb⟩
  clear x0
  have HXPC := Lib.hid (heap_lft HXVB.out hb)
  have HTPC := Lib.hid (heap_lft HTVB.out hb)
  have HRAPC := Lib.hid (heap_lft HRAVB.out hb)
  have HRBPC := Lib.hid (heap_lft HRBVB.out hb)
  have HFPC := Lib.hid (HFVB.out.below hb)
  have HLPC := Lib.hid (HLVB.out.below hb)
  have HOPC := Lib.hid (HOVB.out.below hb)
  have HLIPC := Lib.hid (HLIVB.out.below hb)
  have HBPC := Lib.hid (below_thn HBVB.out hb)
  clear hb
  go_upto_region 7 with fail
  have x0 := heap_cell HXPC.out (j := 0) rfl
  have hcD := rHunts_any a n c F la ln lc L HS.out.1 HS.out.2 PC HFPC.out HLPC.out
  rw [HE.out.1, HE.out.2.2.1] at hcD
  have HCD := Lib.hid hcD
  clear hcD
  go_wp2_with fail
  refine HCD.out.mono ?_
  rintro e1 PD ⟨rfl, hb⟩
  clear x0
  have HXPD := Lib.hid (heap_lft HXPC.out hb)
  have HTPD := Lib.hid (heap_lft HTPC.out hb)
  have HRAPD := Lib.hid (heap_lft HRAPC.out hb)
  have HRBPD := Lib.hid (heap_lft HRBPC.out hb)
  have HFPD := Lib.hid (HFPC.out.below hb)
  have HLPD := Lib.hid (HLPC.out.below hb)
  have HOPD := Lib.hid (HOPC.out.below hb)
  have HLIPD := Lib.hid (HLIPC.out.below hb)
  have HBPD := Lib.hid (below_thn HBPC.out hb)
  clear hb
  go_upto_region 8 with fail
  have x0 := heap_cell HTPD.out (j := 0) rfl
  have hcE := againTop_any a1 n c1 F al ln cl L HS.out.1 HS.out.2 HLC.out HNN.out.2.2 PD (by have h := HOPD.out.nums; rwa [Nat.mul_one] at h) HLIPD.out.nums
  rw [HE.out.1, HE.out.2.2.2] at hcE
  have HCE := Lib.hid hcE
  clear hcE
  go_wp2_with fail
  refine HCE.out.mono ?_
  rintro e1 PE ⟨rfl, hb⟩
  clear x0
  have HXPE := Lib.hid (heap_lft HXPD.out hb)
  have HTPE := Lib.hid (heap_lft HTPD.out hb)
  have HRAPE := Lib.hid (heap_lft HRAPD.out hb)
  have HRBPE := Lib.hid (heap_lft HRBPD.out hb)
  have HFPE := Lib.hid (HFPD.out.below hb)
  have HLPE := Lib.hid (HLPD.out.below hb)
  have HOPE := Lib.hid (HOPD.out.below hb)
  have HLIPE := Lib.hid (HLIPD.out.below hb)
  have HBPE := Lib.hid (below_thn HBPD.out hb)
  clear hb
  go_upto_region 9 with fail
  have x0 := heap_cell HXPE.out (j := 0) rfl
  have hcG := rAgain_any a n c F la ln lc L HS.out.1 HS.out.2 HNN.out.2.1 PE HFPE.out HLPE.out
  rw [HE.out.1, HE.out.2.2.2] at hcG
  have HCG := Lib.hid hcG
  clear hcG
  go_wp2_with fail
  refine HCG.out.mono ?_
  rintro e1 PG ⟨rfl, hb⟩
  clear x0
  have HXPG := Lib.hid (heap_lft HXPE.out hb)
  have HTPG := Lib.hid (heap_lft HTPE.out hb)
  have HRAPG := Lib.hid (heap_lft HRAPE.out hb)
  have HRBPG := Lib.hid (heap_lft HRBPE.out hb)
  have HFPG := Lib.hid (HFPE.out.below hb)
  have HLPG := Lib.hid (HLPE.out.below hb)
  have HOPG := Lib.hid (HOPE.out.below hb)
  have HLIPG := Lib.hid (HLIPE.out.below hb)
  have HBPG := Lib.hid (below_thn HBPE.out hb)
  clear hb
  go_upto_region 10 with fail
  have t0 := heap_cell HTPG.out (j := 0) rfl
  have x0 := heap_cell HXPG.out (j := 0) rfl
  have p0 := heap_cell HRAPG.out (j := 0) rfl
  have p1 := heap_cell HRAPG.out (j := 1) rfl
  have q0 := heap_cell HRBPG.out (j := 0) rfl
  have q1 := heap_cell HRBPG.out (j := 1) rfl
  obtain ⟨ck, hck⟩ : ∃ z, Pure.err (Pure.teethB n F) 100 = z := ⟨_, rfl⟩
  have HCK := Lib.hid hck
  clear hck
  have xx0 := among_below t0
  have xx1 := among_below x0
  have xx2 := among_below p0
  have xx3 := among_below p1
  have xx4 := among_below q0
  have xx5 := among_below q1
  have HC1 : Hid (∀ xq : Among (Below PG.heap.size PG), Calls Try.prog 12 #[wheelsV a1 n c1] xq.val fun e w' => e = .returned (.int .i64 ck) ∧ ∃ y : Among (Below PG.heap.size PG), w' = y.val) := Lib.hid (fun xq => calls_class (((by have h := check_any a1 n c1 F HS.out.1 xq.val ((by have h := HOPG.out.nums; rwa [Nat.mul_one] at h : NumsAt PG a1 n F).below xq.ok); rw [HCK.out] at h; exact h) : Calls Try.prog 12 #[wheelsV a1 n c1] xq.val fun e w' => e = .returned (.int .i64 ck) ∧ Below xq.val.heap.size xq.val w').mono fun e w' h => ⟨h.1, below_thn xq.ok h.2⟩))
  have HC2 : Hid (∀ xq : Among (Below PG.heap.size PG), Calls Try.prog 13 #[wheelsV a n c] xq.val fun e w' => e = .returned (.int .i64 ck) ∧ ∃ y : Among (Below PG.heap.size PG), w' = y.val) := Lib.hid (fun xq => calls_class (((by have h := rCheck_any a n c F HS.out.1 xq.val (HFPG.out.below xq.ok); rw [HCK.out] at h; exact h) : Calls Try.prog 13 #[wheelsV a n c] xq.val fun e w' => e = .returned (.int .i64 ck) ∧ Below xq.val.heap.size xq.val w').mono fun e w' h => ⟨h.1, below_thn xq.ok h.2⟩))
  have HC3 : Hid (∀ xq : Among (Below PG.heap.size PG), Calls Try.prog 14 #[wheelsV a1 n c1, wheelsV a n c] xq.val fun e w' => e = .returned (.bool true) ∧ ∃ y : Among (Below PG.heap.size PG), w' = y.val) := Lib.hid (fun xq => calls_class (((sameWheels_any a1 a n c1 c F HS.out.1 xq.val ((by have h := HOPG.out.nums; rwa [Nat.mul_one] at h : NumsAt PG a1 n F).below xq.ok) (HFPG.out.below xq.ok)) : Calls Try.prog 14 #[wheelsV a1 n c1, wheelsV a n c] xq.val fun e w' => e = .returned (.bool true) ∧ Below xq.val.heap.size xq.val w').mono fun e w' h => ⟨h.1, below_thn xq.ok h.2⟩))
  have HC4 : Hid (∀ xq : Among (Below PG.heap.size PG), Calls Try.prog 15 #[.slice al ln cl, .slice la ln lc] xq.val fun e w' => e = .returned (.bool true) ∧ ∃ y : Among (Below PG.heap.size PG), w' = y.val) := Lib.hid (fun xq => calls_class (((sameTrains_any al la ln cl lc L (by have := HS.out; omega) xq.val (HLIPG.out.nums.below xq.ok) (HLPG.out.below xq.ok)) : Calls Try.prog 15 #[.slice al ln cl, .slice la ln lc] xq.val fun e w' => e = .returned (.bool true) ∧ Below xq.val.heap.size xq.val w').mono fun e w' h => ⟨h.1, below_thn xq.ok h.2⟩))
  have HSt : Hid (Below PG.heap.size PG PG.drew) := Lib.hid (Below.refl _ _).drew
  have hne : Nonempty (Among (Below PG.heap.size PG)) := ⟨⟨_, HSt.out⟩⟩
  refine wp_region_class (Below PG.heap.size PG) (by kernel_rfl) (by kernel_rfl) HSt.out ?_
  repeat (go_big_quiet_step ((first | (go_at_call 12; with_reducible exact HC1.out _) | (go_at_call 13; with_reducible exact HC2.out _) | (go_at_call 14; with_reducible exact HC3.out _) | (go_at_call 15; with_reducible exact HC4.out _))))
  refine wpQuiet_nil ?_
  intro w8 hx
  have HB8 := Lib.hid (below_thn HBPG.out (among_out hx))
  clear hx hne xx0 xx1 xx2 xx3 xx4 xx5 t0 x0 p0 p1 q0 q1
  go_wp2_with fail
  go_ret
  exact ⟨rfl, HB8.out⟩

end Go.Proofs.Ytijfdfplebbaaac
