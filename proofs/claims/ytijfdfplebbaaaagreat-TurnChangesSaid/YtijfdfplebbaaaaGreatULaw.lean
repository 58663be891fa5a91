/-
  TurnChanges: the law's walk.
-/
import Derived.Test.YtijfdfplebbaaaaGreatUOut
namespace Go.Proofs.YtijfdfplebbaaaaGreat
open Go.RowKit

set_option maxHeartbeats 400000000 in
set_option maxRecDepth 100000 in
theorem changes_walk (r : RollX) (d : RollD) (x : NoteX) (la : Option Addr) (ln lc : Nat) (L : Nat → Int) (hnone : RollNone r) (hcap : r.nn ≤ r.nc) (hnl : la = none → ln = 0) (w : World) (hR : RollAt w r d) (hL : NumsAt w la ln L) :
    Calls Tryz.prog 3 #[rollV r, tnoteV x, .slice la ln lc] w fun e w' => e = .returned (.bool true) ∧ Below w.heap.size w w' := by
  obtain ⟨W, hW⟩ : ∃ W, (w.alloc (rollB r)).alloc (tnoteB x) = W := ⟨_, rfl⟩
  have HB : Hid (Below w.heap.size w W) := Lib.hid (by rw [← hW]; exact (below_new _ _).alloc (by simp) _)
  have HX : Hid (W.heap[w.heap.size]? = some (rollB r)) := Lib.hid (by rw [← hW]; exact heap_up (heap_top _ _ rfl) _)
  have HI : Hid (W.heap[w.heap.size + 1]? = some (tnoteB x)) := Lib.hid (by rw [← hW]; exact heap_top _ _ (by simp))
  have HR := Lib.hid (hR.below HB.out)
  have HL := Lib.hid (hL.below HB.out)
  have HNN := Lib.hid (And.intro hnone (And.intro hcap hnl))
  clear hR hL hnone hcap hnl
  have x0 := heap_cell HX.out (j := 0) rfl
  have x1 := heap_cell HX.out (j := 1) rfl
  have x2 := heap_cell HX.out (j := 2) rfl
  have x3 := heap_cell HX.out (j := 3) rfl
  have x4 := heap_cell HX.out (j := 4) rfl
  go_enter Tryz.func3, Tryz.ntmps3
  go_upto_region 1 with fail
  try rw [hW]
  clear hW
  go_wp2_with fail
  refine (rGreat_any r _).mono ?_
  rintro e1 W1 ⟨rfl, hb⟩
  have HXW1 := Lib.hid (heap_lft HX.out hb)
  have HIW1 := Lib.hid (heap_lft HI.out hb)
  have HBW1 := Lib.hid (below_thn HB.out hb)
  have HRW1 := Lib.hid (HR.out.below hb)
  have HLW1 := Lib.hid (HL.out.below hb)
  clear hb x0 x1 x2 x3 x4
  obtain ⟨gr, hgr⟩ : ∃ q, ((decide (20 < (r.pn : Int)) || decide (50 < (r.wn : Int))) || decide (10 < (r.mn : Int)) || decide (10 < (r.sn : Int)) || decide (40 < (r.nn : Int))) = q := ⟨_, rfl⟩
  rw [hgr]
  have HGR := Lib.hid hgr
  clear hgr
  cases gr
  rotate_left
  · go_wp2_with fail
    go_ret
    exact ⟨rfl, HBW1.out⟩
  by_cases hl50 : (40 : Int) < ln
  · go_wp2_with fail
    go_ret
    exact ⟨rfl, HBW1.out⟩
  have HS : Hid (r.pn ≤ 20 ∧ r.wn ≤ 50 ∧ r.mn ≤ 10 ∧ r.sn ≤ 10 ∧ r.nn ≤ 40 ∧ ln ≤ 40) := Lib.hid (by have h := HGR.out; simp only [Bool.or_eq_false_iff, decide_eq_false_iff_not] at h; omega)
  have HN : Hid (RollN r) := Lib.hid (by have h := HS.out; exact ⟨by omega, by omega, by omega, by omega, by omega⟩)
  have hl51 : (ln : Int) ≤ 40 := by omega
  have x0 := heap_cell HXW1.out (j := 0) rfl
  have x1 := heap_cell HXW1.out (j := 1) rfl
  have x2 := heap_cell HXW1.out (j := 2) rfl
  have x3 := heap_cell HXW1.out (j := 3) rfl
  have x4 := heap_cell HXW1.out (j := 4) rfl
  go_wp2_with fail
  refine (rTwin_any r d HN.out HNN.out.1 _ HRW1.out).mono ?_
  rintro e1 W2 ⟨r1, rfl, ho, s1, s2, s3, s4, s5, hb⟩
  have HE : Hid (RollE r r1) := Lib.hid ⟨s1, s2, s3, s4, s5⟩
  clear x0 x1 x2 x3 x4 hl50 s1 s2 s3 s4 s5
  have HXW2 := Lib.hid (heap_lft HXW1.out hb)
  have HIW2 := Lib.hid (heap_lft HIW1.out hb)
  have HBW2 := Lib.hid (below_thn HBW1.out hb)
  have HRW2 := Lib.hid (HRW1.out.below hb)
  have HLW2 := Lib.hid (HLW1.out.below hb)
  have HOW2 := Lib.hid ho
  clear hb ho
  obtain ⟨Y, hY⟩ : ∃ Y, W2.alloc (.cells #[] 3) = Y := ⟨_, rfl⟩
  have hby : Below W2.heap.size W2 Y := by rw [← hY]; exact below_new _ _
  have hoe : OwnNums Y W2.heap.size 3 1 (some ⟨W2.heap.size, 0, none⟩) 0 0 L := by rw [← hY]; exact own_empty _ _ _ rfl (Nat.le_refl _) _
  obtain ⟨i0, hi0, hz0, hz1, hz2⟩ := infoInt
  obtain ⟨al, cl, Z, hr, hol, _, hbe, _⟩ := app_own Y W2.heap.size 3 26 26 1 8 i0 _ Tryz.underlying26 hi0 hz0 hz1 hz2 rfl (by decide) (by decide) hoe la ln lc L (by simpa using HLW2.out.below hby) HNN.out.2.2 (by omega) (by have := HS.out; omega) hby.size
  rw [Nat.zero_add] at hr hol
  have HLIZ : Hid (OwnNums Z W2.heap.size 3 1 al ln cl L) := Lib.hid (hol.congr (fun q hq => by simp [joinF]))
  have hbz : Below W2.heap.size W2 Z := hby.trans hbe
  rw [← hY] at hr
  have HAR := Lib.hid hr
  have HXZ := Lib.hid (heap_lft HXW2.out hbz)
  have HIZ := Lib.hid (heap_lft HIW2.out hbz)
  have HBZ := Lib.hid (below_thn HBW2.out hbz)
  have HRZ := Lib.hid (HRW2.out.below hbz)
  have HLZ := Lib.hid (HLW2.out.below hbz)
  have HOZ := Lib.hid (HOW2.out.below hbz)
  clear hY hby hoe hi0 hz0 hz1 hz2 hr hol hbe hbz
  go_upto_region 4 with (first | (at_builtin; refine Lib.wpList_append_run _ rfl _ _ _ _ rfl _ _ rfl rfl _ _ HAR.out ?_) | go_in)
  obtain ⟨V0, hV0⟩ : ∃ x, Z.alloc (rollB r1) = x := ⟨_, rfl⟩
  have hb : Below Z.heap.size Z V0 := by rw [← hV0]; exact below_new _ _
  have HTV0 : Hid (V0.heap[Z.heap.size]? = some (rollB r1)) := Lib.hid (by rw [← hV0]; exact heap_top _ _ rfl)
  have HXV0 := Lib.hid (heap_lft HXZ.out hb)
  have HIV0 := Lib.hid (heap_lft HIZ.out hb)
  have HRV0 := Lib.hid (HRZ.out.below hb)
  have HLV0 := Lib.hid (HLZ.out.below hb)
  have HOV0 := Lib.hid (HOZ.out.below hb)
  have HLIV0 := Lib.hid (HLIZ.out.below hb)
  have HBV0 := Lib.hid (below_thn HBZ.out hb)
  try rw [hV0]
  clear hV0 hb
  obtain ⟨cP, hcp⟩ : ∃ q, Pure.putE r d x = q := ⟨_, rfl⟩
  have HCP := Lib.hid hcp
  obtain ⟨cS, hcs⟩ : ∃ q, Pure.strC r d ln L = q := ⟨_, rfl⟩
  have HCS := Lib.hid hcs
  clear hcp hcs
  have x0 := heap_cell HTV0.out (j := 0) rfl
  have x1 := heap_cell HTV0.out (j := 1) rfl
  have x2 := heap_cell HTV0.out (j := 2) rfl
  have x3 := heap_cell HTV0.out (j := 3) rfl
  have x4 := heap_cell HTV0.out (j := 4) rfl
  have i0 := heap_cell HIV0.out (j := 0) rfl
  have i1 := heap_cell HIV0.out (j := 1) rfl
  have i2 := heap_cell HIV0.out (j := 2) rfl
  have i3 := heap_cell HIV0.out (j := 3) rfl
  have i4 := heap_cell HIV0.out (j := 4) rfl
  have i5 := heap_cell HIV0.out (j := 5) rfl
  have i6 := heap_cell HIV0.out (j := 6) rfl
  go_wp2_with fail
  refine (put_own r r1 d x cP HCP.out HN.out HE.out V0 _ HOV0.out).mono ?_
  rintro e1 PA ⟨rA, rfl, ho, hb⟩
  have HOA := Lib.hid ho
  clear ho x0 x1 x2 x3 x4 i0 i1 i2 i3 i4 i5 i6
  have HB0PA := Lib.hid hb
  have HSZA : Hid (V0.heap.size ≤ PA.heap.size) := Lib.hid hb.size
  have HXPA := Lib.hid (heap_lft HXV0.out hb)
  have HIPA := Lib.hid (heap_lft HIV0.out hb)
  have HTPA := Lib.hid (heap_lft HTV0.out hb)
  have HRPA := Lib.hid (HRV0.out.below hb)
  have HLPA := Lib.hid (HLV0.out.below hb)
  have HOPA := Lib.hid (HOV0.out.below hb)
  have HLIPA := Lib.hid (HLIV0.out.below hb)
  have HBPA := Lib.hid (below_thn HBV0.out hb)
  clear hb
  go_upto_region 5 with fail
  obtain ⟨V1, hV1⟩ : ∃ x, PA.alloc (rollB rA) = x := ⟨_, rfl⟩
  have hb : Below PA.heap.size PA V1 := by rw [← hV1]; exact below_new _ _
  have HRAV1 : Hid (V1.heap[PA.heap.size]? = some (rollB rA)) := Lib.hid (by rw [← hV1]; exact heap_top _ _ rfl)
  have HXV1 := Lib.hid (heap_lft HXPA.out hb)
  have HIV1 := Lib.hid (heap_lft HIPA.out hb)
  have HTV1 := Lib.hid (heap_lft HTPA.out hb)
  have HRV1 := Lib.hid (HRPA.out.below hb)
  have HLV1 := Lib.hid (HLPA.out.below hb)
  have HOV1 := Lib.hid (HOPA.out.below hb)
  have HLIV1 := Lib.hid (HLIPA.out.below hb)
  have HBV1 := Lib.hid (below_thn HBPA.out hb)
  have HBL := Lib.hid hb
  try rw [hV1]
  clear hV1 hb
  have HQAV1 := HBL
  clear HBL
  have x0 := heap_cell HXV1.out (j := 0) rfl
  have x1 := heap_cell HXV1.out (j := 1) rfl
  have x2 := heap_cell HXV1.out (j := 2) rfl
  have x3 := heap_cell HXV1.out (j := 3) rfl
  have x4 := heap_cell HXV1.out (j := 4) rfl
  have i0 := heap_cell HIV1.out (j := 0) rfl
  have i1 := heap_cell HIV1.out (j := 1) rfl
  have i2 := heap_cell HIV1.out (j := 2) rfl
  have i3 := heap_cell HIV1.out (j := 3) rfl
  have i4 := heap_cell HIV1.out (j := 4) rfl
  have i5 := heap_cell HIV1.out (j := 5) rfl
  have i6 := heap_cell HIV1.out (j := 6) rfl
  go_wp2_with fail
  refine (put_ref r d x cP HCP.out HN.out HNN.out.1 HNN.out.2.1 V1 HRV1.out).mono ?_
  rintro e1 PB ⟨rB, rfl, ho, hb⟩
  have HOB := Lib.hid ho
  clear ho x0 x1 x2 x3 x4 i0 i1 i2 i3 i4 i5 i6
  have HSZB : Hid (V1.heap.size ≤ PB.heap.size) := Lib.hid hb.size
  have HXPB := Lib.hid (heap_lft HXV1.out hb)
  have HIPB := Lib.hid (heap_lft HIV1.out hb)
  have HTPB := Lib.hid (heap_lft HTV1.out hb)
  have HRAPB := Lib.hid (heap_lft HRAV1.out hb)
  have HRPB := Lib.hid (HRV1.out.below hb)
  have HLPB := Lib.hid (HLV1.out.below hb)
  have HOPB := Lib.hid (HOV1.out.below hb)
  have HLIPB := Lib.hid (HLIV1.out.below hb)
  have HBPB := Lib.hid (below_thn HBV1.out hb)
  have HQAPB := Lib.hid (HQAV1.out.trans (hb.mono (HQAV1.out.size)))
  clear hb
  go_upto_region 6 with fail
  obtain ⟨V2, hV2⟩ : ∃ x, PB.alloc (rollB rB) = x := ⟨_, rfl⟩
  have hb : Below PB.heap.size PB V2 := by rw [← hV2]; exact below_new _ _
  have HRBV2 : Hid (V2.heap[PB.heap.size]? = some (rollB rB)) := Lib.hid (by rw [← hV2]; exact heap_top _ _ rfl)
  have HXV2 := Lib.hid (heap_lft HXPB.out hb)
  have HIV2 := Lib.hid (heap_lft HIPB.out hb)
  have HTV2 := Lib.hid (heap_lft HTPB.out hb)
  have HRAV2 := Lib.hid (heap_lft HRAPB.out hb)
  have HRV2 := Lib.hid (HRPB.out.below hb)
  have HLV2 := Lib.hid (HLPB.out.below hb)
  have HOV2 := Lib.hid (HOPB.out.below hb)
  have HLIV2 := Lib.hid (HLIPB.out.below hb)
  have HBV2 := Lib.hid (below_thn HBPB.out hb)
  have HBL := Lib.hid hb
  try rw [hV2]
  clear hV2 hb
  have HQBV2 := HBL
  clear HBL
  have HQAV2 := Lib.hid (HQAPB.out.trans (HQBV2.out.mono HQAPB.out.size))
  have x0 := heap_cell HTV2.out (j := 0) rfl
  have x1 := heap_cell HTV2.out (j := 1) rfl
  have x2 := heap_cell HTV2.out (j := 2) rfl
  have x3 := heap_cell HTV2.out (j := 3) rfl
  have x4 := heap_cell HTV2.out (j := 4) rfl
  go_wp2_with fail
  refine (strike_own r r1 d al ln cl L cS HCS.out HN.out HE.out (by have := HS.out; omega) V2 _ HOV2.out (by have h := HLIV2.out.nums; rwa [Nat.mul_one] at h)).mono ?_
  rintro e1 PC ⟨rC, rfl, ho, hb⟩
  have HOC := Lib.hid ho
  clear ho x0 x1 x2 x3 x4
  have HSZC : Hid (V2.heap.size ≤ PC.heap.size) := Lib.hid hb.size
  have HXPC := Lib.hid (heap_lft HXV2.out hb)
  have HIPC := Lib.hid (heap_lft HIV2.out hb)
  have HTPC := Lib.hid (heap_lft HTV2.out hb)
  have HRAPC := Lib.hid (heap_lft HRAV2.out hb)
  have HRBPC := Lib.hid (heap_lft HRBV2.out hb)
  have HRPC := Lib.hid (HRV2.out.below hb)
  have HLPC := Lib.hid (HLV2.out.below hb)
  have HOPC := Lib.hid (HOV2.out.below hb)
  have HLIPC := Lib.hid (HLIV2.out.below hb)
  have HBPC := Lib.hid (below_thn HBV2.out hb)
  have HQAPC := Lib.hid (HQAV2.out.trans (hb.mono (HQAV2.out.size)))
  have HQBPC := Lib.hid (HQBV2.out.trans (hb.mono (HQBV2.out.size)))
  clear hb
  go_upto_region 7 with fail
  obtain ⟨V3, hV3⟩ : ∃ x, PC.alloc (rollB rC) = x := ⟨_, rfl⟩
  have hb : Below PC.heap.size PC V3 := by rw [← hV3]; exact below_new _ _
  have HRCV3 : Hid (V3.heap[PC.heap.size]? = some (rollB rC)) := Lib.hid (by rw [← hV3]; exact heap_top _ _ rfl)
  have HXV3 := Lib.hid (heap_lft HXPC.out hb)
  have HIV3 := Lib.hid (heap_lft HIPC.out hb)
  have HTV3 := Lib.hid (heap_lft HTPC.out hb)
  have HRAV3 := Lib.hid (heap_lft HRAPC.out hb)
  have HRBV3 := Lib.hid (heap_lft HRBPC.out hb)
  have HRV3 := Lib.hid (HRPC.out.below hb)
  have HLV3 := Lib.hid (HLPC.out.below hb)
  have HOV3 := Lib.hid (HOPC.out.below hb)
  have HLIV3 := Lib.hid (HLIPC.out.below hb)
  have HBV3 := Lib.hid (below_thn HBPC.out hb)
  have HBL := Lib.hid hb
  try rw [hV3]
  clear hV3 hb
  have HQCV3 := HBL
  clear HBL
  have HQAV3 := Lib.hid (HQAPC.out.trans (HQCV3.out.mono HQAPC.out.size))
  have HQBV3 := Lib.hid (HQBPC.out.trans (HQCV3.out.mono HQBPC.out.size))
  have x0 := heap_cell HXV3.out (j := 0) rfl
  have x1 := heap_cell HXV3.out (j := 1) rfl
  have x2 := heap_cell HXV3.out (j := 2) rfl
  have x3 := heap_cell HXV3.out (j := 3) rfl
  have x4 := heap_cell HXV3.out (j := 4) rfl
  go_wp2_with fail
  refine (strike_ref r d la ln lc L cS HCS.out HN.out HNN.out.1 (by have := HS.out; omega) V3 HRV3.out HLV3.out).mono ?_
  rintro e1 PD ⟨rD, rfl, ho, hb⟩
  have HOD := Lib.hid ho
  clear ho x0 x1 x2 x3 x4
  have HSZD : Hid (V3.heap.size ≤ PD.heap.size) := Lib.hid hb.size
  have HXPD := Lib.hid (heap_lft HXV3.out hb)
  have HIPD := Lib.hid (heap_lft HIV3.out hb)
  have HTPD := Lib.hid (heap_lft HTV3.out hb)
  have HRAPD := Lib.hid (heap_lft HRAV3.out hb)
  have HRBPD := Lib.hid (heap_lft HRBV3.out hb)
  have HRCPD := Lib.hid (heap_lft HRCV3.out hb)
  have HRPD := Lib.hid (HRV3.out.below hb)
  have HLPD := Lib.hid (HLV3.out.below hb)
  have HOPD := Lib.hid (HOV3.out.below hb)
  have HLIPD := Lib.hid (HLIV3.out.below hb)
  have HBPD := Lib.hid (below_thn HBV3.out hb)
  have HQAPD := Lib.hid (HQAV3.out.trans (hb.mono (HQAV3.out.size)))
  have HQBPD := Lib.hid (HQBV3.out.trans (hb.mono (HQBV3.out.size)))
  have HQCPD := Lib.hid (HQCV3.out.trans (hb.mono (HQCV3.out.size)))
  clear hb
  go_upto_region 8 with fail
  obtain ⟨V4, hV4⟩ : ∃ x, PD.alloc (rollB rD) = x := ⟨_, rfl⟩
  have hb : Below PD.heap.size PD V4 := by rw [← hV4]; exact below_new _ _
  have HRDV4 : Hid (V4.heap[PD.heap.size]? = some (rollB rD)) := Lib.hid (by rw [← hV4]; exact heap_top _ _ rfl)
  have HXV4 := Lib.hid (heap_lft HXPD.out hb)
  have HIV4 := Lib.hid (heap_lft HIPD.out hb)
  have HTV4 := Lib.hid (heap_lft HTPD.out hb)
  have HRAV4 := Lib.hid (heap_lft HRAPD.out hb)
  have HRBV4 := Lib.hid (heap_lft HRBPD.out hb)
  have HRCV4 := Lib.hid (heap_lft HRCPD.out hb)
  have HRV4 := Lib.hid (HRPD.out.below hb)
  have HLV4 := Lib.hid (HLPD.out.below hb)
  have HOV4 := Lib.hid (HOPD.out.below hb)
  have HLIV4 := Lib.hid (HLIPD.out.below hb)
  have HBV4 := Lib.hid (below_thn HBPD.out hb)
  have HBL := Lib.hid hb
  try rw [hV4]
  clear hV4 hb
  have HQDV4 := HBL
  clear HBL
  have HQAV4 := Lib.hid (HQAPD.out.trans (HQDV4.out.mono HQAPD.out.size))
  have HQBV4 := Lib.hid (HQBPD.out.trans (HQDV4.out.mono HQBPD.out.size))
  have HQCV4 := Lib.hid (HQCPD.out.trans (HQDV4.out.mono HQCPD.out.size))
  have HNXA : Hid (RollN rA) := Lib.hid (HOA.out.n60 HN.out (by have := HS.out; omega))
  have HEXA : Hid (RollE rA rB) := Lib.hid (HOA.out.alike HOB.out)
  have HWA := Lib.hid (HOA.out.own.below HQAV4.out)
  have HWB := Lib.hid (HOB.out.own.below HQBV4.out)
  have HNXC : Hid (RollN rC) := Lib.hid (HOC.out.n60 HN.out (Nat.le_trans (Pure.keepN_le _ _) (by have := HS.out; omega)))
  have HEXC : Hid (RollE rC rD) := Lib.hid (HOC.out.alike HOD.out)
  have HWC := Lib.hid (HOC.out.own.below HQCV4.out)
  have HWD := Lib.hid (HOD.out.own.below HQDV4.out)
  have pA0 := heap_cell HRAV4.out (j := 0) rfl
  have pA1 := heap_cell HRAV4.out (j := 1) rfl
  have pA2 := heap_cell HRAV4.out (j := 2) rfl
  have pA3 := heap_cell HRAV4.out (j := 3) rfl
  have pA4 := heap_cell HRAV4.out (j := 4) rfl
  have pB0 := heap_cell HRBV4.out (j := 0) rfl
  have pB1 := heap_cell HRBV4.out (j := 1) rfl
  have pB2 := heap_cell HRBV4.out (j := 2) rfl
  have pB3 := heap_cell HRBV4.out (j := 3) rfl
  have pB4 := heap_cell HRBV4.out (j := 4) rfl
  have pC0 := heap_cell HRCV4.out (j := 0) rfl
  have pC1 := heap_cell HRCV4.out (j := 1) rfl
  have pC2 := heap_cell HRCV4.out (j := 2) rfl
  have pC3 := heap_cell HRCV4.out (j := 3) rfl
  have pC4 := heap_cell HRCV4.out (j := 4) rfl
  have pD0 := heap_cell HRDV4.out (j := 0) rfl
  have pD1 := heap_cell HRDV4.out (j := 1) rfl
  have pD2 := heap_cell HRDV4.out (j := 2) rfl
  have pD3 := heap_cell HRDV4.out (j := 3) rfl
  have pD4 := heap_cell HRDV4.out (j := 4) rfl
  go_wp2_with fail
  refine (rSame_any rA rB (Pure.insD r d x) HNXA.out HEXA.out.p HEXA.out.w HEXA.out.m HEXA.out.s HEXA.out.n _ HWA.out.at HWB.out.at).mono ?_
  rintro e1 S0 ⟨rfl, hb⟩
  have HL6S0 := Lib.hid hb
  clear hb pA0 pA1 pA2 pA3 pA4 pB0 pB1 pB2 pB3 pB4 pC0 pC1 pC2 pC3 pC4 pD0 pD1 pD2 pD3 pD4
  have HRAS0 := Lib.hid (heap_lft HRAV4.out HL6S0.out)
  have HRBS0 := Lib.hid (heap_lft HRBV4.out HL6S0.out)
  have HRCS0 := Lib.hid (heap_lft HRCV4.out HL6S0.out)
  have HRDS0 := Lib.hid (heap_lft HRDV4.out HL6S0.out)
  have pC0 := heap_cell HRCS0.out (j := 0) rfl
  have pC1 := heap_cell HRCS0.out (j := 1) rfl
  have pC2 := heap_cell HRCS0.out (j := 2) rfl
  have pC3 := heap_cell HRCS0.out (j := 3) rfl
  have pC4 := heap_cell HRCS0.out (j := 4) rfl
  have pD0 := heap_cell HRDS0.out (j := 0) rfl
  have pD1 := heap_cell HRDS0.out (j := 1) rfl
  have pD2 := heap_cell HRDS0.out (j := 2) rfl
  have pD3 := heap_cell HRDS0.out (j := 3) rfl
  have pD4 := heap_cell HRDS0.out (j := 4) rfl
  go_wp2_with fail
  refine (rSame_any rC rD (Pure.struckD r d ln L) HNXC.out HEXC.out.p HEXC.out.w HEXC.out.m HEXC.out.s HEXC.out.n _ (HWC.out.below HL6S0.out).at (HWD.out.below HL6S0.out).at).mono ?_
  rintro e1 S1 ⟨rfl, hb⟩
  have HL6S1 := Lib.hid (below_thn HL6S0.out hb)
  clear hb pC0 pC1 pC2 pC3 pC4 pD0 pD1 pD2 pD3 pD4
  have HRAS1 := Lib.hid (heap_lft HRAV4.out HL6S1.out)
  have HRBS1 := Lib.hid (heap_lft HRBV4.out HL6S1.out)
  have HRCS1 := Lib.hid (heap_lft HRCV4.out HL6S1.out)
  have HRDS1 := Lib.hid (heap_lft HRDV4.out HL6S1.out)
  have pA0 := heap_cell HRAS1.out (j := 0) rfl
  have pA1 := heap_cell HRAS1.out (j := 1) rfl
  have pA2 := heap_cell HRAS1.out (j := 2) rfl
  have pA3 := heap_cell HRAS1.out (j := 3) rfl
  have pA4 := heap_cell HRAS1.out (j := 4) rfl
  have pC0 := heap_cell HRCS1.out (j := 0) rfl
  have pC1 := heap_cell HRCS1.out (j := 1) rfl
  have pC2 := heap_cell HRCS1.out (j := 2) rfl
  have pC3 := heap_cell HRCS1.out (j := 3) rfl
  have pC4 := heap_cell HRCS1.out (j := 4) rfl
  go_upto_region 10 with fail
  obtain ⟨V7, hV7⟩ : ∃ x, S1.alloc (.cells #[.slice rA.pa rA.pn rA.pc, .slice rA.wa rA.wn rA.wc, .slice rA.ma rA.mn rA.mc, .slice rA.sa rA.sn rA.sc, .slice rA.na rA.nn rA.nc, .slice rC.pa rC.pn rC.pc, .slice rC.wa rC.wn rC.wc, .slice rC.ma rC.mn rC.mc, .slice rC.sa rC.sn rC.sc, .slice rC.na rC.nn rC.nc] 30) = x := ⟨_, rfl⟩
  have hb : Below S1.heap.size S1 V7 := by rw [← hV7]; exact below_new _ _
  have HLL : Hid (V7.heap[S1.heap.size]? = some (.cells #[.slice rA.pa rA.pn rA.pc, .slice rA.wa rA.wn rA.wc, .slice rA.ma rA.mn rA.mc, .slice rA.sa rA.sn rA.sc, .slice rA.na rA.nn rA.nc, .slice rC.pa rC.pn rC.pc, .slice rC.wa rC.wn rC.wc, .slice rC.ma rC.mn rC.mc, .slice rC.sa rC.sn rC.sc, .slice rC.na rC.nn rC.nc] 30)) := Lib.hid (by rw [← hV7]; exact heap_top _ _ rfl)
  have hszA0 : V0.heap.size ≤ PA.heap.size := HSZA.out
  have hsz6 : V4.heap.size ≤ S1.heap.size := HL6S1.out.size
  have hszA : PA.heap.size ≤ V4.heap.size := HQAV4.out.size
  have hszB : PB.heap.size ≤ V4.heap.size := HQBV4.out.size
  have hszC : PC.heap.size ≤ V4.heap.size := HQCV4.out.size
  have hszD : PD.heap.size ≤ V4.heap.size := HQDV4.out.size
  have hq2 : PA.heap.size ≤ V2.heap.size := HQAV2.out.size
  have hqC : V2.heap.size ≤ PC.heap.size := HSZC.out
  have HRWA : Hid (RollW V7 V0.heap.size S1.heap.size rA) := Lib.hid (((OwnRoll.base (HWA.out.below HL6S1.out) (by omega)).row).below hb)
  have HRWC : Hid (RollW V7 V0.heap.size S1.heap.size rC) := Lib.hid (((OwnRoll.base (HWC.out.below HL6S1.out) (by omega)).row).below hb)
  have HB07 : Hid (Below V0.heap.size V0 V7) := Lib.hid ((HB0PA.out.trans (HQAV4.out.mono hszA0)).trans ((HL6S1.out.mono (by omega)).trans (hb.mono (by omega))))
  try rw [hV7]
  clear hV7 hb hszA0 hsz6 hq2 hqC hszA hszB hszC hszD pA0 pA1 pA2 pA3 pA4 pC0 pC1 pC2 pC3 pC4
  go_loopw [19, 20, 21, 22, 23, 24, 83] (fun _ _ _ _ _ _ i wr => ∃ k : Nat, k ≤ 2 ∧ i = .int .i64 k ∧ wr.heap[S1.heap.size]? = some (.cells #[.slice rA.pa rA.pn rA.pc, .slice rA.wa rA.wn rA.wc, .slice rA.ma rA.mn rA.mc, .slice rA.sa rA.sn rA.sc, .slice rA.na rA.nn rA.nc, .slice rC.pa rC.pn rC.pc, .slice rC.wa rC.wn rC.wc, .slice rC.ma rC.mn rC.mc, .slice rC.sa rC.sn rC.sc, .slice rC.na rC.nn rC.nc] 30) ∧ RollW wr V0.heap.size S1.heap.size rA ∧ RollW wr V0.heap.size S1.heap.size rC ∧ Below V0.heap.size V0 wr) (fun _ _ _ _ _ _ i _ => 2 - (intOf i).toNat)
  case atStart => exact ⟨0, by omega, rfl, HLL.out, HRWA.out, HRWC.out, HB07.out⟩
  case round =>
    obtain ⟨k, hk, rfl, hl, gA, gC, hb⟩ := hrel
    have HLk := Lib.hid hl
    have HgAk := Lib.hid gA
    have HgCk := Lib.hid gC
    have HBk := Lib.hid hb
    have HLT : Hid (S1.heap.size < wr.heap.size) := Lib.hid (Array.getElem?_eq_some_iff.1 hl).1
    clear hl gA gC hb
    have hk3 : k = 0 ∨ k = 1 ∨ k = 2 := by omega
    rcases hk3 with rfl | rfl | rfl
    · have l0 := heap_cell HLk.out (j := 0) rfl
      have l1 := heap_cell HLk.out (j := 1) rfl
      have l2 := heap_cell HLk.out (j := 2) rfl
      have l3 := heap_cell HLk.out (j := 3) rfl
      have l4 := heap_cell HLk.out (j := 4) rfl
      go_upto_region 12 with fail
      obtain ⟨U, hU⟩ : ∃ x, wr.alloc (rollB rA) = x := ⟨_, rfl⟩
      have hb : Below wr.heap.size wr U := by rw [← hU]; exact below_new _ _
      have HZU : Hid (U.heap[wr.heap.size]? = some (rollB rA)) := Lib.hid (by rw [← hU]; exact heap_top _ _ rfl)
      have HLU := Lib.hid (heap_lft HLk.out hb)
      have HgAU := Lib.hid (HgAk.out.below hb)
      have HgCU := Lib.hid (HgCk.out.below hb)
      have HBU := Lib.hid (below_thn HBk.out hb)
      try rw [hU]
      clear hU hb l0 l1 l2 l3 l4
      obtain ⟨wo, rfl⟩ : ∃ x, x = wr := ⟨_, rfl⟩
      have HLTwo : Hid (S1.heap.size < wo.heap.size) := HLT
      have z1 := heap_cell HZU.out (j := 2) rfl
      go_wp2_with fail
      clear z1
      go_loopw [20, 90] (fun _ i wr => ∃ q : Nat, q ≤ rA.mn ∧ i = .int .i64 q ∧ wr.heap[wo.heap.size]? = some (rollB rA) ∧ wr.heap[S1.heap.size]? = some (.cells #[.slice rA.pa rA.pn rA.pc, .slice rA.wa rA.wn rA.wc, .slice rA.ma rA.mn rA.mc, .slice rA.sa rA.sn rA.sc, .slice rA.na rA.nn rA.nc, .slice rC.pa rC.pn rC.pc, .slice rC.wa rC.wn rC.wc, .slice rC.ma rC.mn rC.mc, .slice rC.sa rC.sn rC.sc, .slice rC.na rC.nn rC.nc] 30) ∧ RollW wr V0.heap.size S1.heap.size rA ∧ RollW wr V0.heap.size S1.heap.size rC ∧ Below V0.heap.size V0 wr) (fun _ i _ => rA.mn - (intOf i).toNat)
      case atStart => exact ⟨0, Nat.zero_le _, rfl, HZU.out, HLU.out, HgAU.out, HgCU.out, HBU.out⟩
      case round =>
        obtain ⟨q, hq, rfl, hz, hl, gA, gC, hb⟩ := hrel
        have HZs0 := Lib.hid hz
        have HLs0 := Lib.hid hl
        have HgAs0 := Lib.hid gA
        have HgCs0 := Lib.hid gC
        have HBs0 := Lib.hid hb
        clear hz hl gA gC hb
        have z1 := heap_cell HZs0.out (j := 2) rfl
        have hnx : rA.mn ≤ 60 := HNXA.out.m
        by_cases hq1 : q < rA.mn
        · rcases HgAs0.out.m with h0 | ⟨g, cur, ty, h9, g1, g2, g3, g4⟩
          · exact absurd hq1 (by omega)
          · have HAX := Lib.hid h9
            rw [h9] at z1
            have n1 : (q : Int) < rA.mn := by omega
            obtain ⟨cv, hcv⟩ := cell_ex g3 (show q < cur.size by omega)
            have hfz := heap_frozen g3 (q)
            have G1 := Lib.hid (And.intro g1 g2)
            clear g1 g2 g3 g4 h9
            go_wp2_with fail
            go_roundw
            case rel => exact ⟨q + 1, by omega, by go_num, (Below.heap_setCell _ _ _ _ (by have := G1.out; have := HLTwo.out; dsimp only; omega)).trans HZs0.out, (Below.heap_setCell _ _ _ _ (by have := G1.out; dsimp only; omega)).trans HLs0.out, HgAs0.out.set _ _ _, HgCs0.out.set _ _ _, HBs0.out.setCell G1.out.1 _⟩
            case measure => simp [intOf]; omega
        · obtain rfl : q = rA.mn := by omega
          have n1 : ¬ (rA.mn : Int) < rA.mn := by omega
          clear z1
          have z1 := heap_cell HZs0.out (j := 3) rfl
          go_wp2_with fail
          clear z1
          go_loopw [21, 101] (fun _ i wr => ∃ q : Nat, q ≤ rA.sn ∧ i = .int .i64 q ∧ wr.heap[wo.heap.size]? = some (rollB rA) ∧ wr.heap[S1.heap.size]? = some (.cells #[.slice rA.pa rA.pn rA.pc, .slice rA.wa rA.wn rA.wc, .slice rA.ma rA.mn rA.mc, .slice rA.sa rA.sn rA.sc, .slice rA.na rA.nn rA.nc, .slice rC.pa rC.pn rC.pc, .slice rC.wa rC.wn rC.wc, .slice rC.ma rC.mn rC.mc, .slice rC.sa rC.sn rC.sc, .slice rC.na rC.nn rC.nc] 30) ∧ RollW wr V0.heap.size S1.heap.size rA ∧ RollW wr V0.heap.size S1.heap.size rC ∧ Below V0.heap.size V0 wr) (fun _ i _ => rA.sn - (intOf i).toNat)
          case atStart => exact ⟨0, Nat.zero_le _, rfl, HZs0.out, HLs0.out, HgAs0.out, HgCs0.out, HBs0.out⟩
          case round =>
            obtain ⟨q, hq, rfl, hz, hl, gA, gC, hb⟩ := hrel
            have HZs1 := Lib.hid hz
            have HLs1 := Lib.hid hl
            have HgAs1 := Lib.hid gA
            have HgCs1 := Lib.hid gC
            have HBs1 := Lib.hid hb
            clear hz hl gA gC hb
            have z1 := heap_cell HZs1.out (j := 3) rfl
            have hnx : rA.sn ≤ 60 := HNXA.out.s
            by_cases hq1 : q < rA.sn
            · rcases HgAs1.out.s with h0 | ⟨g, cur, ty, h9, g1, g2, g3, g4⟩
              · exact absurd hq1 (by omega)
              · have HAX := Lib.hid h9
                rw [h9] at z1
                have n1 : (q : Int) < rA.sn := by omega
                obtain ⟨cv, hcv⟩ := cell_ex g3 (show q * 2 + 1 < cur.size by omega)
                have hfz := heap_frozen g3 (q * 2 + 1)
                have G1 := Lib.hid (And.intro g1 g2)
                clear g1 g2 g3 g4 h9
                go_wp2_with fail
                go_roundw
                case rel => exact ⟨q + 1, by omega, by go_num, (Below.heap_setCell _ _ _ _ (by have := G1.out; have := HLTwo.out; dsimp only; omega)).trans HZs1.out, (Below.heap_setCell _ _ _ _ (by have := G1.out; dsimp only; omega)).trans HLs1.out, HgAs1.out.set _ _ _, HgCs1.out.set _ _ _, HBs1.out.setCell G1.out.1 _⟩
                case measure => simp [intOf]; omega
            · obtain rfl : q = rA.sn := by omega
              have n1 : ¬ (rA.sn : Int) < rA.sn := by omega
              clear z1
              have z1 := heap_cell HZs1.out (j := 4) rfl
              go_wp2_with fail
              clear z1
              go_loopw [22, 113] (fun _ i wr => ∃ q : Nat, q ≤ rA.nn ∧ i = .int .i64 q ∧ wr.heap[wo.heap.size]? = some (rollB rA) ∧ wr.heap[S1.heap.size]? = some (.cells #[.slice rA.pa rA.pn rA.pc, .slice rA.wa rA.wn rA.wc, .slice rA.ma rA.mn rA.mc, .slice rA.sa rA.sn rA.sc, .slice rA.na rA.nn rA.nc, .slice rC.pa rC.pn rC.pc, .slice rC.wa rC.wn rC.wc, .slice rC.ma rC.mn rC.mc, .slice rC.sa rC.sn rC.sc, .slice rC.na rC.nn rC.nc] 30) ∧ RollW wr V0.heap.size S1.heap.size rA ∧ RollW wr V0.heap.size S1.heap.size rC ∧ Below V0.heap.size V0 wr) (fun _ i _ => rA.nn - (intOf i).toNat)
              case atStart => exact ⟨0, Nat.zero_le _, rfl, HZs1.out, HLs1.out, HgAs1.out, HgCs1.out, HBs1.out⟩
              case round =>
                obtain ⟨q, hq, rfl, hz, hl, gA, gC, hb⟩ := hrel
                have HZs2 := Lib.hid hz
                have HLs2 := Lib.hid hl
                have HgAs2 := Lib.hid gA
                have HgCs2 := Lib.hid gC
                have HBs2 := Lib.hid hb
                clear hz hl gA gC hb
                have z1 := heap_cell HZs2.out (j := 4) rfl
                have hnx : rA.nn ≤ 60 := HNXA.out.n
                by_cases hq1 : q < rA.nn
                · rcases HgAs2.out.n with h0 | ⟨g, cur, ty, h9, g1, g2, g3, g4⟩
                  · exact absurd hq1 (by omega)
                  · have HAX := Lib.hid h9
                    rw [h9] at z1
                    have n1 : (q : Int) < rA.nn := by omega
                    obtain ⟨cv, hcv⟩ := cell_ex g3 (show q * 7 < cur.size by omega)
                    have hfz := heap_frozen g3 (q * 7)
                    have G1 := Lib.hid (And.intro g1 g2)
                    clear g1 g2 g3 g4 h9
                    go_wp2_with fail
                    go_roundw
                    case rel => exact ⟨q + 1, by omega, by go_num, (Below.heap_setCell _ _ _ _ (by have := G1.out; have := HLTwo.out; dsimp only; omega)).trans HZs2.out, (Below.heap_setCell _ _ _ _ (by have := G1.out; dsimp only; omega)).trans HLs2.out, HgAs2.out.set _ _ _, HgCs2.out.set _ _ _, HBs2.out.setCell G1.out.1 _⟩
                    case measure => simp [intOf]; omega
                · obtain rfl : q = rA.nn := by omega
                  have n1 : ¬ (rA.nn : Int) < rA.nn := by omega
                  clear z1
                  have z1 := heap_cell HZs2.out (j := 0) rfl
                  go_wp2_with fail
                  clear z1
                  go_loopw [23, 126] (fun _ i wr => ∃ q : Nat, q ≤ rA.pn ∧ i = .int .i64 q ∧ wr.heap[wo.heap.size]? = some (rollB rA) ∧ wr.heap[S1.heap.size]? = some (.cells #[.slice rA.pa rA.pn rA.pc, .slice rA.wa rA.wn rA.wc, .slice rA.ma rA.mn rA.mc, .slice rA.sa rA.sn rA.sc, .slice rA.na rA.nn rA.nc, .slice rC.pa rC.pn rC.pc, .slice rC.wa rC.wn rC.wc, .slice rC.ma rC.mn rC.mc, .slice rC.sa rC.sn rC.sc, .slice rC.na rC.nn rC.nc] 30) ∧ RollW wr V0.heap.size S1.heap.size rA ∧ RollW wr V0.heap.size S1.heap.size rC ∧ Below V0.heap.size V0 wr) (fun _ i _ => rA.pn - (intOf i).toNat)
                  case atStart => exact ⟨0, Nat.zero_le _, rfl, HZs2.out, HLs2.out, HgAs2.out, HgCs2.out, HBs2.out⟩
                  case round =>
                    obtain ⟨q, hq, rfl, hz, hl, gA, gC, hb⟩ := hrel
                    have HZs3 := Lib.hid hz
                    have HLs3 := Lib.hid hl
                    have HgAs3 := Lib.hid gA
                    have HgCs3 := Lib.hid gC
                    have HBs3 := Lib.hid hb
                    clear hz hl gA gC hb
                    have z1 := heap_cell HZs3.out (j := 0) rfl
                    have hnx : rA.pn ≤ 60 := HNXA.out.p
                    by_cases hq1 : q < rA.pn
                    · rcases HgAs3.out.p with h0 | ⟨g, cur, ty, h9, g1, g2, g3, g4⟩
                      · exact absurd hq1 (by omega)
                      · have HAX := Lib.hid h9
                        rw [h9] at z1
                        have n1 : (q : Int) < rA.pn := by omega
                        obtain ⟨cv, hcv⟩ := cell_ex g3 (show q * 4 + 1 < cur.size by omega)
                        have hfz := heap_frozen g3 (q * 4 + 1)
                        have G1 := Lib.hid (And.intro g1 g2)
                        clear g1 g2 g3 g4 h9
                        go_wp2_with fail
                        go_roundw
                        case rel => exact ⟨q + 1, by omega, by go_num, (Below.heap_setCell _ _ _ _ (by have := G1.out; have := HLTwo.out; dsimp only; omega)).trans HZs3.out, (Below.heap_setCell _ _ _ _ (by have := G1.out; dsimp only; omega)).trans HLs3.out, HgAs3.out.set _ _ _, HgCs3.out.set _ _ _, HBs3.out.setCell G1.out.1 _⟩
                        case measure => simp [intOf]; omega
                    · obtain rfl : q = rA.pn := by omega
                      have n1 : ¬ (rA.pn : Int) < rA.pn := by omega
                      clear z1
                      have z1 := heap_cell HZs3.out (j := 1) rfl
                      go_wp2_with fail
                      clear z1
                      go_loopw [24, 140] (fun _ i wr => ∃ q : Nat, q ≤ rA.wn ∧ i = .int .i64 q ∧ wr.heap[wo.heap.size]? = some (rollB rA) ∧ wr.heap[S1.heap.size]? = some (.cells #[.slice rA.pa rA.pn rA.pc, .slice rA.wa rA.wn rA.wc, .slice rA.ma rA.mn rA.mc, .slice rA.sa rA.sn rA.sc, .slice rA.na rA.nn rA.nc, .slice rC.pa rC.pn rC.pc, .slice rC.wa rC.wn rC.wc, .slice rC.ma rC.mn rC.mc, .slice rC.sa rC.sn rC.sc, .slice rC.na rC.nn rC.nc] 30) ∧ RollW wr V0.heap.size S1.heap.size rA ∧ RollW wr V0.heap.size S1.heap.size rC ∧ Below V0.heap.size V0 wr) (fun _ i _ => rA.wn - (intOf i).toNat)
                      case atStart => exact ⟨0, Nat.zero_le _, rfl, HZs3.out, HLs3.out, HgAs3.out, HgCs3.out, HBs3.out⟩
                      case round =>
                        obtain ⟨q, hq, rfl, hz, hl, gA, gC, hb⟩ := hrel
                        have HZs4 := Lib.hid hz
                        have HLs4 := Lib.hid hl
                        have HgAs4 := Lib.hid gA
                        have HgCs4 := Lib.hid gC
                        have HBs4 := Lib.hid hb
                        clear hz hl gA gC hb
                        have z1 := heap_cell HZs4.out (j := 1) rfl
                        have hnx : rA.wn ≤ 60 := HNXA.out.w
                        by_cases hq1 : q < rA.wn
                        · rcases HgAs4.out.g with h0 | ⟨g, cur, ty, h9, g1, g2, g3, g4⟩
                          · exact absurd hq1 (by omega)
                          · have HAX := Lib.hid h9
                            rw [h9] at z1
                            have n1 : (q : Int) < rA.wn := by omega
                            obtain ⟨cv, hcv⟩ := cell_ex g3 (show q * 5 < cur.size by omega)
                            have hfz := heap_frozen g3 (q * 5)
                            have G1 := Lib.hid (And.intro g1 g2)
                            clear g1 g2 g3 g4 h9
                            go_wp2_with fail
                            go_roundw
                            case rel => exact ⟨q + 1, by omega, by go_num, (Below.heap_setCell _ _ _ _ (by have := G1.out; have := HLTwo.out; dsimp only; omega)).trans HZs4.out, (Below.heap_setCell _ _ _ _ (by have := G1.out; dsimp only; omega)).trans HLs4.out, HgAs4.out.set _ _ _, HgCs4.out.set _ _ _, HBs4.out.setCell G1.out.1 _⟩
                            case measure => simp [intOf]; omega
                        · obtain rfl : q = rA.wn := by omega
                          have n1 : ¬ (rA.wn : Int) < rA.wn := by omega
                          clear z1
                          go_wp2_with fail
                          go_roundw
                          case rel => exact ⟨1, by omega, rfl, HLs4.out, HgAs4.out, HgCs4.out, HBs4.out⟩
                          case measure => simp [intOf]
    · have l0 := heap_cell HLk.out (j := 5) rfl
      have l1 := heap_cell HLk.out (j := 6) rfl
      have l2 := heap_cell HLk.out (j := 7) rfl
      have l3 := heap_cell HLk.out (j := 8) rfl
      have l4 := heap_cell HLk.out (j := 9) rfl
      go_upto_region 12 with fail
      obtain ⟨U, hU⟩ : ∃ x, wr.alloc (rollB rC) = x := ⟨_, rfl⟩
      have hb : Below wr.heap.size wr U := by rw [← hU]; exact below_new _ _
      have HZU : Hid (U.heap[wr.heap.size]? = some (rollB rC)) := Lib.hid (by rw [← hU]; exact heap_top _ _ rfl)
      have HLU := Lib.hid (heap_lft HLk.out hb)
      have HgAU := Lib.hid (HgAk.out.below hb)
      have HgCU := Lib.hid (HgCk.out.below hb)
      have HBU := Lib.hid (below_thn HBk.out hb)
      try rw [hU]
      clear hU hb l0 l1 l2 l3 l4
      obtain ⟨wo, rfl⟩ : ∃ x, x = wr := ⟨_, rfl⟩
      have HLTwo : Hid (S1.heap.size < wo.heap.size) := HLT
      have z1 := heap_cell HZU.out (j := 2) rfl
      go_wp2_with fail
      clear z1
      go_loopw [20, 90] (fun _ i wr => ∃ q : Nat, q ≤ rC.mn ∧ i = .int .i64 q ∧ wr.heap[wo.heap.size]? = some (rollB rC) ∧ wr.heap[S1.heap.size]? = some (.cells #[.slice rA.pa rA.pn rA.pc, .slice rA.wa rA.wn rA.wc, .slice rA.ma rA.mn rA.mc, .slice rA.sa rA.sn rA.sc, .slice rA.na rA.nn rA.nc, .slice rC.pa rC.pn rC.pc, .slice rC.wa rC.wn rC.wc, .slice rC.ma rC.mn rC.mc, .slice rC.sa rC.sn rC.sc, .slice rC.na rC.nn rC.nc] 30) ∧ RollW wr V0.heap.size S1.heap.size rA ∧ RollW wr V0.heap.size S1.heap.size rC ∧ Below V0.heap.size V0 wr) (fun _ i _ => rC.mn - (intOf i).toNat)
      case atStart => exact ⟨0, Nat.zero_le _, rfl, HZU.out, HLU.out, HgAU.out, HgCU.out, HBU.out⟩
      case round =>
        obtain ⟨q, hq, rfl, hz, hl, gA, gC, hb⟩ := hrel
        have HZs0 := Lib.hid hz
        have HLs0 := Lib.hid hl
        have HgAs0 := Lib.hid gA
        have HgCs0 := Lib.hid gC
        have HBs0 := Lib.hid hb
        clear hz hl gA gC hb
        have z1 := heap_cell HZs0.out (j := 2) rfl
        have hnx : rC.mn ≤ 60 := HNXC.out.m
        by_cases hq1 : q < rC.mn
        · rcases HgCs0.out.m with h0 | ⟨g, cur, ty, h9, g1, g2, g3, g4⟩
          · exact absurd hq1 (by omega)
          · have HAX := Lib.hid h9
            rw [h9] at z1
            have n1 : (q : Int) < rC.mn := by omega
            obtain ⟨cv, hcv⟩ := cell_ex g3 (show q < cur.size by omega)
            have hfz := heap_frozen g3 (q)
            have G1 := Lib.hid (And.intro g1 g2)
            clear g1 g2 g3 g4 h9
            go_wp2_with fail
            go_roundw
            case rel => exact ⟨q + 1, by omega, by go_num, (Below.heap_setCell _ _ _ _ (by have := G1.out; have := HLTwo.out; dsimp only; omega)).trans HZs0.out, (Below.heap_setCell _ _ _ _ (by have := G1.out; dsimp only; omega)).trans HLs0.out, HgAs0.out.set _ _ _, HgCs0.out.set _ _ _, HBs0.out.setCell G1.out.1 _⟩
            case measure => simp [intOf]; omega
        · obtain rfl : q = rC.mn := by omega
          have n1 : ¬ (rC.mn : Int) < rC.mn := by omega
          clear z1
          have z1 := heap_cell HZs0.out (j := 3) rfl
          go_wp2_with fail
          clear z1
          go_loopw [21, 101] (fun _ i wr => ∃ q : Nat, q ≤ rC.sn ∧ i = .int .i64 q ∧ wr.heap[wo.heap.size]? = some (rollB rC) ∧ wr.heap[S1.heap.size]? = some (.cells #[.slice rA.pa rA.pn rA.pc, .slice rA.wa rA.wn rA.wc, .slice rA.ma rA.mn rA.mc, .slice rA.sa rA.sn rA.sc, .slice rA.na rA.nn rA.nc, .slice rC.pa rC.pn rC.pc, .slice rC.wa rC.wn rC.wc, .slice rC.ma rC.mn rC.mc, .slice rC.sa rC.sn rC.sc, .slice rC.na rC.nn rC.nc] 30) ∧ RollW wr V0.heap.size S1.heap.size rA ∧ RollW wr V0.heap.size S1.heap.size rC ∧ Below V0.heap.size V0 wr) (fun _ i _ => rC.sn - (intOf i).toNat)
          case atStart => exact ⟨0, Nat.zero_le _, rfl, HZs0.out, HLs0.out, HgAs0.out, HgCs0.out, HBs0.out⟩
          case round =>
            obtain ⟨q, hq, rfl, hz, hl, gA, gC, hb⟩ := hrel
            have HZs1 := Lib.hid hz
            have HLs1 := Lib.hid hl
            have HgAs1 := Lib.hid gA
            have HgCs1 := Lib.hid gC
            have HBs1 := Lib.hid hb
            clear hz hl gA gC hb
            have z1 := heap_cell HZs1.out (j := 3) rfl
            have hnx : rC.sn ≤ 60 := HNXC.out.s
            by_cases hq1 : q < rC.sn
            · rcases HgCs1.out.s with h0 | ⟨g, cur, ty, h9, g1, g2, g3, g4⟩
              · exact absurd hq1 (by omega)
              · have HAX := Lib.hid h9
                rw [h9] at z1
                have n1 : (q : Int) < rC.sn := by omega
                obtain ⟨cv, hcv⟩ := cell_ex g3 (show q * 2 + 1 < cur.size by omega)
                have hfz := heap_frozen g3 (q * 2 + 1)
                have G1 := Lib.hid (And.intro g1 g2)
                clear g1 g2 g3 g4 h9
                go_wp2_with fail
                go_roundw
                case rel => exact ⟨q + 1, by omega, by go_num, (Below.heap_setCell _ _ _ _ (by have := G1.out; have := HLTwo.out; dsimp only; omega)).trans HZs1.out, (Below.heap_setCell _ _ _ _ (by have := G1.out; dsimp only; omega)).trans HLs1.out, HgAs1.out.set _ _ _, HgCs1.out.set _ _ _, HBs1.out.setCell G1.out.1 _⟩
                case measure => simp [intOf]; omega
            · obtain rfl : q = rC.sn := by omega
              have n1 : ¬ (rC.sn : Int) < rC.sn := by omega
              clear z1
              have z1 := heap_cell HZs1.out (j := 4) rfl
              go_wp2_with fail
              clear z1
              go_loopw [22, 113] (fun _ i wr => ∃ q : Nat, q ≤ rC.nn ∧ i = .int .i64 q ∧ wr.heap[wo.heap.size]? = some (rollB rC) ∧ wr.heap[S1.heap.size]? = some (.cells #[.slice rA.pa rA.pn rA.pc, .slice rA.wa rA.wn rA.wc, .slice rA.ma rA.mn rA.mc, .slice rA.sa rA.sn rA.sc, .slice rA.na rA.nn rA.nc, .slice rC.pa rC.pn rC.pc, .slice rC.wa rC.wn rC.wc, .slice rC.ma rC.mn rC.mc, .slice rC.sa rC.sn rC.sc, .slice rC.na rC.nn rC.nc] 30) ∧ RollW wr V0.heap.size S1.heap.size rA ∧ RollW wr V0.heap.size S1.heap.size rC ∧ Below V0.heap.size V0 wr) (fun _ i _ => rC.nn - (intOf i).toNat)
              case atStart => exact ⟨0, Nat.zero_le _, rfl, HZs1.out, HLs1.out, HgAs1.out, HgCs1.out, HBs1.out⟩
              case round =>
                obtain ⟨q, hq, rfl, hz, hl, gA, gC, hb⟩ := hrel
                have HZs2 := Lib.hid hz
                have HLs2 := Lib.hid hl
                have HgAs2 := Lib.hid gA
                have HgCs2 := Lib.hid gC
                have HBs2 := Lib.hid hb
                clear hz hl gA gC hb
                have z1 := heap_cell HZs2.out (j := 4) rfl
                have hnx : rC.nn ≤ 60 := HNXC.out.n
                by_cases hq1 : q < rC.nn
                · rcases HgCs2.out.n with h0 | ⟨g, cur, ty, h9, g1, g2, g3, g4⟩
                  · exact absurd hq1 (by omega)
                  · have HAX := Lib.hid h9
                    rw [h9] at z1
                    have n1 : (q : Int) < rC.nn := by omega
                    obtain ⟨cv, hcv⟩ := cell_ex g3 (show q * 7 < cur.size by omega)
                    have hfz := heap_frozen g3 (q * 7)
                    have G1 := Lib.hid (And.intro g1 g2)
                    clear g1 g2 g3 g4 h9
                    go_wp2_with fail
                    go_roundw
                    case rel => exact ⟨q + 1, by omega, by go_num, (Below.heap_setCell _ _ _ _ (by have := G1.out; have := HLTwo.out; dsimp only; omega)).trans HZs2.out, (Below.heap_setCell _ _ _ _ (by have := G1.out; dsimp only; omega)).trans HLs2.out, HgAs2.out.set _ _ _, HgCs2.out.set _ _ _, HBs2.out.setCell G1.out.1 _⟩
                    case measure => simp [intOf]; omega
                · obtain rfl : q = rC.nn := by omega
                  have n1 : ¬ (rC.nn : Int) < rC.nn := by omega
                  clear z1
                  have z1 := heap_cell HZs2.out (j := 0) rfl
                  go_wp2_with fail
                  clear z1
                  go_loopw [23, 126] (fun _ i wr => ∃ q : Nat, q ≤ rC.pn ∧ i = .int .i64 q ∧ wr.heap[wo.heap.size]? = some (rollB rC) ∧ wr.heap[S1.heap.size]? = some (.cells #[.slice rA.pa rA.pn rA.pc, .slice rA.wa rA.wn rA.wc, .slice rA.ma rA.mn rA.mc, .slice rA.sa rA.sn rA.sc, .slice rA.na rA.nn rA.nc, .slice rC.pa rC.pn rC.pc, .slice rC.wa rC.wn rC.wc, .slice rC.ma rC.mn rC.mc, .slice rC.sa rC.sn rC.sc, .slice rC.na rC.nn rC.nc] 30) ∧ RollW wr V0.heap.size S1.heap.size rA ∧ RollW wr V0.heap.size S1.heap.size rC ∧ Below V0.heap.size V0 wr) (fun _ i _ => rC.pn - (intOf i).toNat)
                  case atStart => exact ⟨0, Nat.zero_le _, rfl, HZs2.out, HLs2.out, HgAs2.out, HgCs2.out, HBs2.out⟩
                  case round =>
                    obtain ⟨q, hq, rfl, hz, hl, gA, gC, hb⟩ := hrel
                    have HZs3 := Lib.hid hz
                    have HLs3 := Lib.hid hl
                    have HgAs3 := Lib.hid gA
                    have HgCs3 := Lib.hid gC
                    have HBs3 := Lib.hid hb
                    clear hz hl gA gC hb
                    have z1 := heap_cell HZs3.out (j := 0) rfl
                    have hnx : rC.pn ≤ 60 := HNXC.out.p
                    by_cases hq1 : q < rC.pn
                    · rcases HgCs3.out.p with h0 | ⟨g, cur, ty, h9, g1, g2, g3, g4⟩
                      · exact absurd hq1 (by omega)
                      · have HAX := Lib.hid h9
                        rw [h9] at z1
                        have n1 : (q : Int) < rC.pn := by omega
                        obtain ⟨cv, hcv⟩ := cell_ex g3 (show q * 4 + 1 < cur.size by omega)
                        have hfz := heap_frozen g3 (q * 4 + 1)
                        have G1 := Lib.hid (And.intro g1 g2)
                        clear g1 g2 g3 g4 h9
                        go_wp2_with fail
                        go_roundw
                        case rel => exact ⟨q + 1, by omega, by go_num, (Below.heap_setCell _ _ _ _ (by have := G1.out; have := HLTwo.out; dsimp only; omega)).trans HZs3.out, (Below.heap_setCell _ _ _ _ (by have := G1.out; dsimp only; omega)).trans HLs3.out, HgAs3.out.set _ _ _, HgCs3.out.set _ _ _, HBs3.out.setCell G1.out.1 _⟩
                        case measure => simp [intOf]; omega
                    · obtain rfl : q = rC.pn := by omega
                      have n1 : ¬ (rC.pn : Int) < rC.pn := by omega
                      clear z1
                      have z1 := heap_cell HZs3.out (j := 1) rfl
                      go_wp2_with fail
                      clear z1
                      go_loopw [24, 140] (fun _ i wr => ∃ q : Nat, q ≤ rC.wn ∧ i = .int .i64 q ∧ wr.heap[wo.heap.size]? = some (rollB rC) ∧ wr.heap[S1.heap.size]? = some (.cells #[.slice rA.pa rA.pn rA.pc, .slice rA.wa rA.wn rA.wc, .slice rA.ma rA.mn rA.mc, .slice rA.sa rA.sn rA.sc, .slice rA.na rA.nn rA.nc, .slice rC.pa rC.pn rC.pc, .slice rC.wa rC.wn rC.wc, .slice rC.ma rC.mn rC.mc, .slice rC.sa rC.sn rC.sc, .slice rC.na rC.nn rC.nc] 30) ∧ RollW wr V0.heap.size S1.heap.size rA ∧ RollW wr V0.heap.size S1.heap.size rC ∧ Below V0.heap.size V0 wr) (fun _ i _ => rC.wn - (intOf i).toNat)
                      case atStart => exact ⟨0, Nat.zero_le _, rfl, HZs3.out, HLs3.out, HgAs3.out, HgCs3.out, HBs3.out⟩
                      case round =>
                        obtain ⟨q, hq, rfl, hz, hl, gA, gC, hb⟩ := hrel
                        have HZs4 := Lib.hid hz
                        have HLs4 := Lib.hid hl
                        have HgAs4 := Lib.hid gA
                        have HgCs4 := Lib.hid gC
                        have HBs4 := Lib.hid hb
                        clear hz hl gA gC hb
                        have z1 := heap_cell HZs4.out (j := 1) rfl
                        have hnx : rC.wn ≤ 60 := HNXC.out.w
                        by_cases hq1 : q < rC.wn
                        · rcases HgCs4.out.g with h0 | ⟨g, cur, ty, h9, g1, g2, g3, g4⟩
                          · exact absurd hq1 (by omega)
                          · have HAX := Lib.hid h9
                            rw [h9] at z1
                            have n1 : (q : Int) < rC.wn := by omega
                            obtain ⟨cv, hcv⟩ := cell_ex g3 (show q * 5 < cur.size by omega)
                            have hfz := heap_frozen g3 (q * 5)
                            have G1 := Lib.hid (And.intro g1 g2)
                            clear g1 g2 g3 g4 h9
                            go_wp2_with fail
                            go_roundw
                            case rel => exact ⟨q + 1, by omega, by go_num, (Below.heap_setCell _ _ _ _ (by have := G1.out; have := HLTwo.out; dsimp only; omega)).trans HZs4.out, (Below.heap_setCell _ _ _ _ (by have := G1.out; dsimp only; omega)).trans HLs4.out, HgAs4.out.set _ _ _, HgCs4.out.set _ _ _, HBs4.out.setCell G1.out.1 _⟩
                            case measure => simp [intOf]; omega
                        · obtain rfl : q = rC.wn := by omega
                          have n1 : ¬ (rC.wn : Int) < rC.wn := by omega
                          clear z1
                          go_wp2_with fail
                          go_roundw
                          case rel => exact ⟨2, by omega, rfl, HLs4.out, HgAs4.out, HgCs4.out, HBs4.out⟩
                          case measure => simp [intOf]
    · have HT9 := Lib.hid (heap_lft HTV0.out HBk.out)
      have HX9 := Lib.hid (heap_lft HXV0.out HBk.out)
      have HO9 := Lib.hid (HOV0.out.below HBk.out)
      have HR9 := Lib.hid (HRV0.out.below HBk.out)
      have HLI9 := Lib.hid (HLIV0.out.below HBk.out)
      have HL9 := Lib.hid (HLV0.out.below HBk.out)
      have x0 := heap_cell HX9.out (j := 0) rfl
      have x1 := heap_cell HX9.out (j := 1) rfl
      have x2 := heap_cell HX9.out (j := 2) rfl
      have x3 := heap_cell HX9.out (j := 3) rfl
      have x4 := heap_cell HX9.out (j := 4) rfl
      have t0 := heap_cell HT9.out (j := 0) rfl
      have t1 := heap_cell HT9.out (j := 1) rfl
      have t2 := heap_cell HT9.out (j := 2) rfl
      have t3 := heap_cell HT9.out (j := 3) rfl
      have t4 := heap_cell HT9.out (j := 4) rfl
      go_wp2_with fail
      refine (rSame_any r1 r d (HE.out.n60 HN.out) HE.out.p.symm HE.out.w.symm HE.out.m.symm HE.out.s.symm HE.out.n.symm _ HO9.out.at HR9.out).mono ?_
      rintro e1 V9 ⟨rfl, hb⟩
      have HB9 := Lib.hid (below_thn (below_thn HBV0.out HBk.out) hb)
      have HLI10 := Lib.hid (HLI9.out.below hb)
      have HL10 := Lib.hid (HL9.out.below hb)
      clear hb x0 x1 x2 x3 x4 t0 t1 t2 t3 t4
      go_wp2_with fail
      refine (sameNums_any al la ln cl lc L (by have := HS.out; omega) _ (by have h := HLI10.out.nums; rwa [Nat.mul_one] at h) HL10.out).mono ?_
      rintro e1 V10 ⟨rfl, hb⟩
      have HB10 := Lib.hid (below_thn HB9.out hb)
      clear hb
      go_wp2_with fail
      go_ret
      exact ⟨rfl, HB10.out⟩

end Go.Proofs.YtijfdfplebbaaaaGreat
