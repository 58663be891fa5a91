/-
  PressChanges: the law's walk.
-/
import Derived.Test.YtmdmfiddabmaeaaQSameOut
namespace Go.Proofs.Ytmdmfiddabmaeaa
open Go.RowKit

set_option maxHeartbeats 400000000 in
set_option maxRecDepth 100000 in
theorem changes_walk (a : Option Addr) (n c : Nat) (b : Option Addr) (m d : Nat) (F G : Nat → Int) (x0 x1 x2 x3 x4 : Int) (la : Option Addr) (len cap : Nat) (L : Nat → Int) (id tg : Int) (hnc : n ≤ c) (hmd : m ≤ d) (hna : a = none → n = 0) (hnb : b = none → m = 0) (hnl : la = none → len = 0) (wG : ∀ i, i < m → (Lit.int .i64 (G (i * 5))).wf = true) (wL : ∀ j, j < len → (Lit.int .i64 (L j)).wf = true) (w : World) (hF : NumsAt w a (n * 4) F) (hG : NumsAt w b (m * 5) G) (hL : NumsAt w la len L) :
    Calls Try.prog 3 #[pressV a n c b m d, noteV x0 x1 x2 x3 x4, .slice la len cap, .int .i64 id, .int .i64 tg] w fun x w' => x = .returned (.bool true) ∧ Below w.heap.size w w' := by
  obtain ⟨W, hW⟩ : ∃ W, (w.alloc (pressB a n c b m d)).alloc (noteB x0 x1 x2 x3 x4) = W := ⟨_, rfl⟩
  have HB : Hid (Below w.heap.size w W) := Lib.hid (by rw [← hW]; exact (below_new _ _).alloc (by simp) _)
  have HX : Hid (W.heap[w.heap.size]? = some (pressB a n c b m d)) := Lib.hid (by rw [← hW]; exact heap_up (heap_top _ _ rfl) _)
  have HI : Hid (W.heap[w.heap.size + 1]? = some (noteB x0 x1 x2 x3 x4)) := Lib.hid (by rw [← hW]; exact heap_top _ _ (by simp))
  have HF := Lib.hid (hF.below HB.out)
  have HG := Lib.hid (hG.below HB.out)
  have HL := Lib.hid (hL.below HB.out)
  have HNN := Lib.hid (And.intro hna (And.intro hnb hnl))
  have HMD := Lib.hid hmd
  have HWG := Lib.hid wG
  have HWL := Lib.hid wL
  clear hF hG hL hna hnb hnl hmd hnc wG wL
  have p0 := heap_cell HX.out (j := 0) rfl
  have p1 := heap_cell HX.out (j := 1) rfl
  go_enter Try.func3, Try.ntmps3
  go_upto_region 1 with fail
  try rw [hW]
  clear hW
  go_wp2_with fail
  refine (great_any a n c b m d _).mono ?_
  rintro e1 W1 ⟨rfl, hb⟩
  have HXW1 := Lib.hid (heap_lft HX.out hb)
  have HIW1 := Lib.hid (heap_lft HI.out hb)
  have HBW1 := Lib.hid (below_thn HB.out hb)
  have HFW1 := Lib.hid (HF.out.below hb)
  have HGW1 := Lib.hid (HG.out.below hb)
  have HLW1 := Lib.hid (HL.out.below hb)
  clear hb p0 p1
  obtain ⟨gr, hgr⟩ : ∃ r, (decide (20 < (n : Int)) || decide (50 < (m : Int))) = r := ⟨_, rfl⟩
  rw [hgr]
  have HGR := Lib.hid hgr
  clear hgr
  cases gr
  rotate_left
  · go_wp2_with fail
    go_ret
    exact ⟨rfl, HBW1.out⟩
  by_cases hl50 : (50 : Int) < len
  · go_wp2_with fail
    go_ret
    exact ⟨rfl, HBW1.out⟩
  have HN : Hid (n ≤ 20 ∧ m ≤ 50 ∧ len ≤ 50) := Lib.hid (by have h := HGR.out; simp only [Bool.or_eq_false_iff, decide_eq_false_iff_not] at h; omega)
  have hl51 : (len : Int) ≤ 50 := by omega
  have p0 := heap_cell HXW1.out (j := 0) rfl
  have p1 := heap_cell HXW1.out (j := 1) rfl
  go_wp2_with fail
  refine (twin_any a n c b m d F G (by have := HN.out; omega) (by have := HN.out; omega) HNN.out.1 HNN.out.2.1 _ HFW1.out HGW1.out).mono ?_
  rintro e1 W2 ⟨a1, c1, a2, c2, rfl, ho1, ho2, hb⟩
  clear p0 p1 hl50
  have HXW2 := Lib.hid (heap_lft HXW1.out hb)
  have HIW2 := Lib.hid (heap_lft HIW1.out hb)
  have HBW2 := Lib.hid (below_thn HBW1.out hb)
  have HFW2 := Lib.hid (HFW1.out.below hb)
  have HGW2 := Lib.hid (HGW1.out.below hb)
  have HLW2 := Lib.hid (HLW1.out.below hb)
  have HAW2 := Lib.hid ho1
  have HCW2 := Lib.hid ho2
  clear hb ho1 ho2
  obtain ⟨Y, hY⟩ : ∃ Y, W2.alloc (.cells #[] 3) = Y := ⟨_, rfl⟩
  have hby : Below W2.heap.size W2 Y := by rw [← hY]; exact below_new _ _
  have hoe : OwnNums Y W2.heap.size 3 1 (some ⟨W2.heap.size, 0, none⟩) 0 0 L := by rw [← hY]; exact own_empty _ _ _ rfl (Nat.le_refl _) _
  obtain ⟨i0, hi0, hz0, hz1, hz2⟩ := infoInt
  obtain ⟨al, cl, Z, hr, hol, _, hbe, _⟩ := app_own Y W2.heap.size 3 30 30 1 8 i0 _ Try.underlying30 hi0 hz0 hz1 hz2 rfl (by decide) (by decide) hoe la len cap L (by simpa using HLW2.out.below hby) HNN.out.2.2 (by omega) (by have := HN.out; omega) hby.size
  rw [Nat.zero_add] at hr hol
  have HLIZ : Hid (OwnNums Z W2.heap.size 3 1 al len cl L) := Lib.hid (hol.congr (fun q hq => by simp [joinF]))
  have hbz : Below W2.heap.size W2 Z := hby.trans hbe
  rw [← hY] at hr
  have HAR := Lib.hid hr
  have HXZ := Lib.hid (heap_lft HXW2.out hbz)
  have HIZ := Lib.hid (heap_lft HIW2.out hbz)
  have HBZ := Lib.hid (below_thn HBW2.out hbz)
  have HFZ := Lib.hid (HFW2.out.below hbz)
  have HGZ := Lib.hid (HGW2.out.below hbz)
  have HLZ := Lib.hid (HLW2.out.below hbz)
  have HAZ := Lib.hid (HAW2.out.below hbz)
  have HCZ := Lib.hid (HCW2.out.below hbz)
  clear hY hby hoe hi0 hz0 hz1 hz2 hr hol hbe hbz
  go_upto_region 4 with (first | (at_builtin; refine Lib.wpList_append_run _ rfl _ _ _ _ rfl _ _ rfl rfl _ _ HAR.out ?_) | go_in)
  obtain ⟨V0, hV0⟩ : ∃ x, Z.alloc (pressB a1 n c1 a2 m c2) = x := ⟨_, rfl⟩
  have hb : Below Z.heap.size Z V0 := by rw [← hV0]; exact below_new _ _
  have HTV0 : Hid (V0.heap[Z.heap.size]? = some (pressB a1 n c1 a2 m c2)) := Lib.hid (by rw [← hV0]; exact heap_top _ _ rfl)
  have HXV0 := Lib.hid (heap_lft HXZ.out hb)
  have HIV0 := Lib.hid (heap_lft HIZ.out hb)
  have HFV0 := Lib.hid (HFZ.out.below hb)
  have HGV0 := Lib.hid (HGZ.out.below hb)
  have HLV0 := Lib.hid (HLZ.out.below hb)
  have HAV0 := Lib.hid (HAZ.out.below hb)
  have HCV0 := Lib.hid (HCZ.out.below hb)
  have HLIV0 := Lib.hid (HLIZ.out.below hb)
  have HBV0 := Lib.hid (below_thn HBZ.out hb)
  try rw [hV0]
  clear hV0 hb
  have p0 := heap_cell HTV0.out (j := 0) rfl
  have p1 := heap_cell HTV0.out (j := 1) rfl
  have i0 := heap_cell HIV0.out (j := 0) rfl
  have i1 := heap_cell HIV0.out (j := 1) rfl
  have i2 := heap_cell HIV0.out (j := 2) rfl
  have i3 := heap_cell HIV0.out (j := 3) rfl
  have i4 := heap_cell HIV0.out (j := 4) rfl
  go_wp2_with fail
  refine (weigh_any a1 n c1 a2 m c2 F G x0 x1 x2 x3 x4 (by have := HN.out; omega) (by have := HN.out; omega) (fun e => HAV0.out.nil e) HWG.out _ HAV0.out.nums HCV0.out.nums).mono ?_
  rintro e1 PA hp
  obtain ⟨aA, nA, cA, bA, mA, dA, qA, he, hrest⟩ := _root_.id hp
  obtain ⟨hb, _⟩ := hrest
  subst he
  have HOA := Lib.hid hp
  clear hp p0 p1 i0 i1 i2 i3 i4
  have HB0PA := Lib.hid hb
  have HSZA : Hid (V0.heap.size ≤ PA.heap.size) := Lib.hid hb.size
  have HXPA := Lib.hid (heap_lft HXV0.out hb)
  have HIPA := Lib.hid (heap_lft HIV0.out hb)
  have HTPA := Lib.hid (heap_lft HTV0.out hb)
  have HFPA := Lib.hid (HFV0.out.below hb)
  have HGPA := Lib.hid (HGV0.out.below hb)
  have HLPA := Lib.hid (HLV0.out.below hb)
  have HAPA := Lib.hid (HAV0.out.below hb)
  have HCPA := Lib.hid (HCV0.out.below hb)
  have HLIPA := Lib.hid (HLIV0.out.below hb)
  have HBPA := Lib.hid (below_thn HBV0.out hb)
  clear hb
  go_upto_region 5 with fail
  obtain ⟨V1, hV1⟩ : ∃ x, PA.alloc (pressB aA nA cA bA mA dA) = x := ⟨_, rfl⟩
  have hb : Below PA.heap.size PA V1 := by rw [← hV1]; exact below_new _ _
  have HRAV1 : Hid (V1.heap[PA.heap.size]? = some (pressB aA nA cA bA mA dA)) := Lib.hid (by rw [← hV1]; exact heap_top _ _ rfl)
  have HXV1 := Lib.hid (heap_lft HXPA.out hb)
  have HIV1 := Lib.hid (heap_lft HIPA.out hb)
  have HTV1 := Lib.hid (heap_lft HTPA.out hb)
  have HFV1 := Lib.hid (HFPA.out.below hb)
  have HGV1 := Lib.hid (HGPA.out.below hb)
  have HLV1 := Lib.hid (HLPA.out.below hb)
  have HAV1 := Lib.hid (HAPA.out.below hb)
  have HCV1 := Lib.hid (HCPA.out.below hb)
  have HLIV1 := Lib.hid (HLIPA.out.below hb)
  have HBV1 := Lib.hid (below_thn HBPA.out hb)
  try rw [hV1]
  have HBL := Lib.hid hb
  clear hV1 hb
  have HQAV1 := HBL
  clear HBL
  have p0 := heap_cell HXV1.out (j := 0) rfl
  have p1 := heap_cell HXV1.out (j := 1) rfl
  have i0 := heap_cell HIV1.out (j := 0) rfl
  have i1 := heap_cell HIV1.out (j := 1) rfl
  have i2 := heap_cell HIV1.out (j := 2) rfl
  have i3 := heap_cell HIV1.out (j := 3) rfl
  have i4 := heap_cell HIV1.out (j := 4) rfl
  go_wp2_with fail
  refine (rWeigh_any a n c b m d F G x0 x1 x2 x3 x4 (by have := HN.out; omega) (by have := HN.out; omega) HMD.out HNN.out.1 HNN.out.2.1 _ HFV1.out HGV1.out).mono ?_
  rintro e1 PB hp
  obtain ⟨aB, nB, cB, bB, mB, dB, qB, he, hrest⟩ := _root_.id hp
  obtain ⟨hb, _⟩ := hrest
  subst he
  have HOB := Lib.hid hp
  clear hp p0 p1 i0 i1 i2 i3 i4
  have HSZB : Hid (V1.heap.size ≤ PB.heap.size) := Lib.hid hb.size
  have HXPB := Lib.hid (heap_lft HXV1.out hb)
  have HIPB := Lib.hid (heap_lft HIV1.out hb)
  have HTPB := Lib.hid (heap_lft HTV1.out hb)
  have HRAPB := Lib.hid (heap_lft HRAV1.out hb)
  have HFPB := Lib.hid (HFV1.out.below hb)
  have HGPB := Lib.hid (HGV1.out.below hb)
  have HLPB := Lib.hid (HLV1.out.below hb)
  have HAPB := Lib.hid (HAV1.out.below hb)
  have HCPB := Lib.hid (HCV1.out.below hb)
  have HLIPB := Lib.hid (HLIV1.out.below hb)
  have HBPB := Lib.hid (below_thn HBV1.out hb)
  have HQAPB := Lib.hid (HQAV1.out.trans (hb.mono (HQAV1.out.size)))
  clear hb
  go_upto_region 6 with fail
  obtain ⟨V2, hV2⟩ : ∃ x, PB.alloc (pressB aB nB cB bB mB dB) = x := ⟨_, rfl⟩
  have hb : Below PB.heap.size PB V2 := by rw [← hV2]; exact below_new _ _
  have HRBV2 : Hid (V2.heap[PB.heap.size]? = some (pressB aB nB cB bB mB dB)) := Lib.hid (by rw [← hV2]; exact heap_top _ _ rfl)
  have HXV2 := Lib.hid (heap_lft HXPB.out hb)
  have HIV2 := Lib.hid (heap_lft HIPB.out hb)
  have HTV2 := Lib.hid (heap_lft HTPB.out hb)
  have HRAV2 := Lib.hid (heap_lft HRAPB.out hb)
  have HFV2 := Lib.hid (HFPB.out.below hb)
  have HGV2 := Lib.hid (HGPB.out.below hb)
  have HLV2 := Lib.hid (HLPB.out.below hb)
  have HAV2 := Lib.hid (HAPB.out.below hb)
  have HCV2 := Lib.hid (HCPB.out.below hb)
  have HLIV2 := Lib.hid (HLIPB.out.below hb)
  have HBV2 := Lib.hid (below_thn HBPB.out hb)
  try rw [hV2]
  have HBL := Lib.hid hb
  clear hV2 hb
  have HQBV2 := HBL
  clear HBL
  have HQAV2 := Lib.hid (HQAPB.out.trans (HQBV2.out.mono HQAPB.out.size))
  have p0 := heap_cell HTV2.out (j := 0) rfl
  have p1 := heap_cell HTV2.out (j := 1) rfl
  go_wp2_with fail
  refine (strikeTop_any a1 n c1 a2 m c2 al len cl F G L (by have := HN.out; omega) (by have := HN.out; omega) (by have := HN.out; omega) (fun e => HAV2.out.nil e) HWG.out HWL.out _ HAV2.out.nums HCV2.out.nums (by have h := HLIV2.out.nums; rwa [Nat.mul_one] at h)).mono ?_
  rintro e1 PC hp
  obtain ⟨aC, nC, cC, bC, mC, dC, qC, he, hrest⟩ := _root_.id hp
  obtain ⟨_, hb, _⟩ := hrest
  subst he
  have HOC := Lib.hid hp
  clear hp p0 p1
  have HSZC : Hid (V2.heap.size ≤ PC.heap.size) := Lib.hid hb.size
  have HXPC := Lib.hid (heap_lft HXV2.out hb)
  have HIPC := Lib.hid (heap_lft HIV2.out hb)
  have HTPC := Lib.hid (heap_lft HTV2.out hb)
  have HRAPC := Lib.hid (heap_lft HRAV2.out hb)
  have HRBPC := Lib.hid (heap_lft HRBV2.out hb)
  have HFPC := Lib.hid (HFV2.out.below hb)
  have HGPC := Lib.hid (HGV2.out.below hb)
  have HLPC := Lib.hid (HLV2.out.below hb)
  have HAPC := Lib.hid (HAV2.out.below hb)
  have HCPC := Lib.hid (HCV2.out.below hb)
  have HLIPC := Lib.hid (HLIV2.out.below hb)
  have HBPC := Lib.hid (below_thn HBV2.out hb)
  have HQAPC := Lib.hid (HQAV2.out.trans (hb.mono (HQAV2.out.size)))
  have HQBPC := Lib.hid (HQBV2.out.trans (hb.mono (HQBV2.out.size)))
  clear hb
  go_upto_region 7 with fail
  obtain ⟨V3, hV3⟩ : ∃ x, PC.alloc (pressB aC nC cC bC mC dC) = x := ⟨_, rfl⟩
  have hb : Below PC.heap.size PC V3 := by rw [← hV3]; exact below_new _ _
  have HRCV3 : Hid (V3.heap[PC.heap.size]? = some (pressB aC nC cC bC mC dC)) := Lib.hid (by rw [← hV3]; exact heap_top _ _ rfl)
  have HXV3 := Lib.hid (heap_lft HXPC.out hb)
  have HIV3 := Lib.hid (heap_lft HIPC.out hb)
  have HTV3 := Lib.hid (heap_lft HTPC.out hb)
  have HRAV3 := Lib.hid (heap_lft HRAPC.out hb)
  have HRBV3 := Lib.hid (heap_lft HRBPC.out hb)
  have HFV3 := Lib.hid (HFPC.out.below hb)
  have HGV3 := Lib.hid (HGPC.out.below hb)
  have HLV3 := Lib.hid (HLPC.out.below hb)
  have HAV3 := Lib.hid (HAPC.out.below hb)
  have HCV3 := Lib.hid (HCPC.out.below hb)
  have HLIV3 := Lib.hid (HLIPC.out.below hb)
  have HBV3 := Lib.hid (below_thn HBPC.out hb)
  try rw [hV3]
  have HBL := Lib.hid hb
  clear hV3 hb
  have HQCV3 := HBL
  clear HBL
  have HQAV3 := Lib.hid (HQAPC.out.trans (HQCV3.out.mono HQAPC.out.size))
  have HQBV3 := Lib.hid (HQBPC.out.trans (HQCV3.out.mono HQBPC.out.size))
  have p0 := heap_cell HXV3.out (j := 0) rfl
  have p1 := heap_cell HXV3.out (j := 1) rfl
  go_wp2_with fail
  refine (rStrike_any a n c b m d la len cap F G L (by have := HN.out; omega) (by have := HN.out; omega) (by have := HN.out; omega) HNN.out.1 HNN.out.2.1 HWL.out _ HFV3.out HGV3.out HLV3.out).mono ?_
  rintro e1 PD hp
  obtain ⟨aD, nD, cD, bD, mD, dD, qD, he, hrest⟩ := _root_.id hp
  obtain ⟨_, hb, _⟩ := hrest
  subst he
  have HOD := Lib.hid hp
  clear hp p0 p1
  have HSZD : Hid (V3.heap.size ≤ PD.heap.size) := Lib.hid hb.size
  have HXPD := Lib.hid (heap_lft HXV3.out hb)
  have HIPD := Lib.hid (heap_lft HIV3.out hb)
  have HTPD := Lib.hid (heap_lft HTV3.out hb)
  have HRAPD := Lib.hid (heap_lft HRAV3.out hb)
  have HRBPD := Lib.hid (heap_lft HRBV3.out hb)
  have HRCPD := Lib.hid (heap_lft HRCV3.out hb)
  have HFPD := Lib.hid (HFV3.out.below hb)
  have HGPD := Lib.hid (HGV3.out.below hb)
  have HLPD := Lib.hid (HLV3.out.below hb)
  have HAPD := Lib.hid (HAV3.out.below hb)
  have HCPD := Lib.hid (HCV3.out.below hb)
  have HLIPD := Lib.hid (HLIV3.out.below hb)
  have HBPD := Lib.hid (below_thn HBV3.out hb)
  have HQAPD := Lib.hid (HQAV3.out.trans (hb.mono (HQAV3.out.size)))
  have HQBPD := Lib.hid (HQBV3.out.trans (hb.mono (HQBV3.out.size)))
  have HQCPD := Lib.hid (HQCV3.out.trans (hb.mono (HQCV3.out.size)))
  clear hb
  go_upto_region 8 with fail
  obtain ⟨V4, hV4⟩ : ∃ x, PD.alloc (pressB aD nD cD bD mD dD) = x := ⟨_, rfl⟩
  have hb : Below PD.heap.size PD V4 := by rw [← hV4]; exact below_new _ _
  have HRDV4 : Hid (V4.heap[PD.heap.size]? = some (pressB aD nD cD bD mD dD)) := Lib.hid (by rw [← hV4]; exact heap_top _ _ rfl)
  have HXV4 := Lib.hid (heap_lft HXPD.out hb)
  have HIV4 := Lib.hid (heap_lft HIPD.out hb)
  have HTV4 := Lib.hid (heap_lft HTPD.out hb)
  have HRAV4 := Lib.hid (heap_lft HRAPD.out hb)
  have HRBV4 := Lib.hid (heap_lft HRBPD.out hb)
  have HRCV4 := Lib.hid (heap_lft HRCPD.out hb)
  have HFV4 := Lib.hid (HFPD.out.below hb)
  have HGV4 := Lib.hid (HGPD.out.below hb)
  have HLV4 := Lib.hid (HLPD.out.below hb)
  have HAV4 := Lib.hid (HAPD.out.below hb)
  have HCV4 := Lib.hid (HCPD.out.below hb)
  have HLIV4 := Lib.hid (HLIPD.out.below hb)
  have HBV4 := Lib.hid (below_thn HBPD.out hb)
  try rw [hV4]
  have HBL := Lib.hid hb
  clear hV4 hb
  have HQDV4 := HBL
  clear HBL
  have HQAV4 := Lib.hid (HQAPD.out.trans (HQDV4.out.mono HQAPD.out.size))
  have HQBV4 := Lib.hid (HQBPD.out.trans (HQDV4.out.mono HQBPD.out.size))
  have HQCV4 := Lib.hid (HQCPD.out.trans (HQDV4.out.mono HQCPD.out.size))
  have p0 := heap_cell HTV4.out (j := 0) rfl
  have p1 := heap_cell HTV4.out (j := 1) rfl
  go_wp2_with fail
  refine (lead_any a1 n c1 a2 m c2 F G id tg (by have := HN.out; omega) (by have := HN.out; omega) (fun e => HAV4.out.nil e) HWG.out _ HAV4.out.nums HCV4.out.nums).mono ?_
  rintro e1 PE hp
  obtain ⟨aE, nE, cE, bE, mE, dE, qE, he, hrest⟩ := _root_.id hp
  obtain ⟨hb, _⟩ := hrest
  subst he
  have HOE := Lib.hid hp
  clear hp p0 p1
  have HSZE : Hid (V4.heap.size ≤ PE.heap.size) := Lib.hid hb.size
  have HXPE := Lib.hid (heap_lft HXV4.out hb)
  have HIPE := Lib.hid (heap_lft HIV4.out hb)
  have HTPE := Lib.hid (heap_lft HTV4.out hb)
  have HRAPE := Lib.hid (heap_lft HRAV4.out hb)
  have HRBPE := Lib.hid (heap_lft HRBV4.out hb)
  have HRCPE := Lib.hid (heap_lft HRCV4.out hb)
  have HRDPE := Lib.hid (heap_lft HRDV4.out hb)
  have HFPE := Lib.hid (HFV4.out.below hb)
  have HGPE := Lib.hid (HGV4.out.below hb)
  have HLPE := Lib.hid (HLV4.out.below hb)
  have HAPE := Lib.hid (HAV4.out.below hb)
  have HCPE := Lib.hid (HCV4.out.below hb)
  have HLIPE := Lib.hid (HLIV4.out.below hb)
  have HBPE := Lib.hid (below_thn HBV4.out hb)
  have HQAPE := Lib.hid (HQAV4.out.trans (hb.mono (HQAV4.out.size)))
  have HQBPE := Lib.hid (HQBV4.out.trans (hb.mono (HQBV4.out.size)))
  have HQCPE := Lib.hid (HQCV4.out.trans (hb.mono (HQCV4.out.size)))
  have HQDPE := Lib.hid (HQDV4.out.trans (hb.mono (HQDV4.out.size)))
  clear hb
  go_upto_region 9 with fail
  obtain ⟨V5, hV5⟩ : ∃ x, PE.alloc (pressB aE nE cE bE mE dE) = x := ⟨_, rfl⟩
  have hb : Below PE.heap.size PE V5 := by rw [← hV5]; exact below_new _ _
  have HREV5 : Hid (V5.heap[PE.heap.size]? = some (pressB aE nE cE bE mE dE)) := Lib.hid (by rw [← hV5]; exact heap_top _ _ rfl)
  have HXV5 := Lib.hid (heap_lft HXPE.out hb)
  have HIV5 := Lib.hid (heap_lft HIPE.out hb)
  have HTV5 := Lib.hid (heap_lft HTPE.out hb)
  have HRAV5 := Lib.hid (heap_lft HRAPE.out hb)
  have HRBV5 := Lib.hid (heap_lft HRBPE.out hb)
  have HRCV5 := Lib.hid (heap_lft HRCPE.out hb)
  have HRDV5 := Lib.hid (heap_lft HRDPE.out hb)
  have HFV5 := Lib.hid (HFPE.out.below hb)
  have HGV5 := Lib.hid (HGPE.out.below hb)
  have HLV5 := Lib.hid (HLPE.out.below hb)
  have HAV5 := Lib.hid (HAPE.out.below hb)
  have HCV5 := Lib.hid (HCPE.out.below hb)
  have HLIV5 := Lib.hid (HLIPE.out.below hb)
  have HBV5 := Lib.hid (below_thn HBPE.out hb)
  try rw [hV5]
  have HBL := Lib.hid hb
  clear hV5 hb
  have HQEV5 := HBL
  clear HBL
  have HQAV5 := Lib.hid (HQAPE.out.trans (HQEV5.out.mono HQAPE.out.size))
  have HQBV5 := Lib.hid (HQBPE.out.trans (HQEV5.out.mono HQBPE.out.size))
  have HQCV5 := Lib.hid (HQCPE.out.trans (HQEV5.out.mono HQCPE.out.size))
  have HQDV5 := Lib.hid (HQDPE.out.trans (HQEV5.out.mono HQDPE.out.size))
  have p0 := heap_cell HXV5.out (j := 0) rfl
  have p1 := heap_cell HXV5.out (j := 1) rfl
  go_wp2_with fail
  refine (rLead_any a n c b m d F G id tg (by have := HN.out; omega) (by have := HN.out; omega) HNN.out.1 HNN.out.2.1 _ HFV5.out HGV5.out).mono ?_
  rintro e1 PM hp
  obtain ⟨aM, nM, cM, bM, mM, dM, qM, he, hrest⟩ := _root_.id hp
  obtain ⟨hb, _⟩ := hrest
  subst he
  have HOM := Lib.hid hp
  clear hp p0 p1
  have HSZM : Hid (V5.heap.size ≤ PM.heap.size) := Lib.hid hb.size
  have HXPM := Lib.hid (heap_lft HXV5.out hb)
  have HIPM := Lib.hid (heap_lft HIV5.out hb)
  have HTPM := Lib.hid (heap_lft HTV5.out hb)
  have HRAPM := Lib.hid (heap_lft HRAV5.out hb)
  have HRBPM := Lib.hid (heap_lft HRBV5.out hb)
  have HRCPM := Lib.hid (heap_lft HRCV5.out hb)
  have HRDPM := Lib.hid (heap_lft HRDV5.out hb)
  have HREPM := Lib.hid (heap_lft HREV5.out hb)
  have HFPM := Lib.hid (HFV5.out.below hb)
  have HGPM := Lib.hid (HGV5.out.below hb)
  have HLPM := Lib.hid (HLV5.out.below hb)
  have HAPM := Lib.hid (HAV5.out.below hb)
  have HCPM := Lib.hid (HCV5.out.below hb)
  have HLIPM := Lib.hid (HLIV5.out.below hb)
  have HBPM := Lib.hid (below_thn HBV5.out hb)
  have HQAPM := Lib.hid (HQAV5.out.trans (hb.mono (HQAV5.out.size)))
  have HQBPM := Lib.hid (HQBV5.out.trans (hb.mono (HQBV5.out.size)))
  have HQCPM := Lib.hid (HQCV5.out.trans (hb.mono (HQCV5.out.size)))
  have HQDPM := Lib.hid (HQDV5.out.trans (hb.mono (HQDV5.out.size)))
  have HQEPM := Lib.hid (HQEV5.out.trans (hb.mono (HQEV5.out.size)))
  clear hb
  go_upto_region 10 with fail
  obtain ⟨V6, hV6⟩ : ∃ x, PM.alloc (pressB aM nM cM bM mM dM) = x := ⟨_, rfl⟩
  have hb : Below PM.heap.size PM V6 := by rw [← hV6]; exact below_new _ _
  have HRMV6 : Hid (V6.heap[PM.heap.size]? = some (pressB aM nM cM bM mM dM)) := Lib.hid (by rw [← hV6]; exact heap_top _ _ rfl)
  have HXV6 := Lib.hid (heap_lft HXPM.out hb)
  have HIV6 := Lib.hid (heap_lft HIPM.out hb)
  have HTV6 := Lib.hid (heap_lft HTPM.out hb)
  have HRAV6 := Lib.hid (heap_lft HRAPM.out hb)
  have HRBV6 := Lib.hid (heap_lft HRBPM.out hb)
  have HRCV6 := Lib.hid (heap_lft HRCPM.out hb)
  have HRDV6 := Lib.hid (heap_lft HRDPM.out hb)
  have HREV6 := Lib.hid (heap_lft HREPM.out hb)
  have HFV6 := Lib.hid (HFPM.out.below hb)
  have HGV6 := Lib.hid (HGPM.out.below hb)
  have HLV6 := Lib.hid (HLPM.out.below hb)
  have HAV6 := Lib.hid (HAPM.out.below hb)
  have HCV6 := Lib.hid (HCPM.out.below hb)
  have HLIV6 := Lib.hid (HLIPM.out.below hb)
  have HBV6 := Lib.hid (below_thn HBPM.out hb)
  try rw [hV6]
  have HBL := Lib.hid hb
  clear hV6 hb
  have HQMV6 := HBL
  clear HBL
  have HQAV6 := Lib.hid (HQAPM.out.trans (HQMV6.out.mono HQAPM.out.size))
  have HQBV6 := Lib.hid (HQBPM.out.trans (HQMV6.out.mono HQBPM.out.size))
  have HQCV6 := Lib.hid (HQCPM.out.trans (HQMV6.out.mono HQCPM.out.size))
  have HQDV6 := Lib.hid (HQDPM.out.trans (HQMV6.out.mono HQDPM.out.size))
  have HQEV6 := Lib.hid (HQEPM.out.trans (HQMV6.out.mono HQEPM.out.size))
  obtain ⟨rfl, rfl, rfl, hnA, hmA, AA, BA, u1, u2, u3, u4⟩ := HOA.out.same HOB.out
  have HNXA : Hid (nA ≤ 20 ∧ mA ≤ 51) := Lib.hid (by have := HN.out; omega)
  have HWAa := Lib.hid (u1.below HQAV6.out)
  have HWAb := Lib.hid (u2.below HQAV6.out)
  have HWBa := Lib.hid (u3.below HQBV6.out)
  have HWBb := Lib.hid (u4.below HQBV6.out)
  clear hnA hmA u1 u2 u3 u4
  obtain ⟨rfl, rfl, rfl, hnC, hmC, AC, BC, u1, u2, u3, u4⟩ := HOC.out.same HOD.out
  have HNXC : Hid (nC ≤ 20 ∧ mC ≤ 51) := Lib.hid (by have := HN.out; omega)
  have HWCa := Lib.hid (u1.below HQCV6.out)
  have HWCb := Lib.hid (u2.below HQCV6.out)
  have HWDa := Lib.hid (u3.below HQDV6.out)
  have HWDb := Lib.hid (u4.below HQDV6.out)
  clear hnC hmC u1 u2 u3 u4
  obtain ⟨rfl, rfl, rfl, hnE, hmE, AE, BE, u1, u2, u3, u4⟩ := HOE.out.same HOM.out
  have HNXE : Hid (nE ≤ 20 ∧ mE ≤ 51) := Lib.hid (by have := HN.out; omega)
  have HWEa := Lib.hid (u1.below HQEV6.out)
  have HWEb := Lib.hid (u2.below HQEV6.out)
  have HWMa := Lib.hid (u3.below HQMV6.out)
  have HWMb := Lib.hid (u4.below HQMV6.out)
  clear hnE hmE u1 u2 u3 u4
  have pA0 := heap_cell HRAV6.out (j := 0) rfl
  have pA1 := heap_cell HRAV6.out (j := 1) rfl
  have pB0 := heap_cell HRBV6.out (j := 0) rfl
  have pB1 := heap_cell HRBV6.out (j := 1) rfl
  have pC0 := heap_cell HRCV6.out (j := 0) rfl
  have pC1 := heap_cell HRCV6.out (j := 1) rfl
  have pD0 := heap_cell HRDV6.out (j := 0) rfl
  have pD1 := heap_cell HRDV6.out (j := 1) rfl
  have pE0 := heap_cell HREV6.out (j := 0) rfl
  have pE1 := heap_cell HREV6.out (j := 1) rfl
  have pM0 := heap_cell HRMV6.out (j := 0) rfl
  have pM1 := heap_cell HRMV6.out (j := 1) rfl
  go_wp2_with fail
  refine (same_true aA nA cA bA mA dA aB cB bB dB AA BA (by have := HNXA.out; omega) (by have := HNXA.out; omega) _ HWAa.out.nums HWAb.out.nums HWBa.out.nums HWBb.out.nums).mono ?_
  rintro e1 S0 ⟨rfl, hb⟩
  have HL6S0 := Lib.hid hb
  clear hb pA0 pA1 pC0 pC1 pE0 pE1 pB0 pB1 pD0 pD1 pM0 pM1
  have HRAS0 := Lib.hid (heap_lft HRAV6.out HL6S0.out)
  have HRBS0 := Lib.hid (heap_lft HRBV6.out HL6S0.out)
  have HRCS0 := Lib.hid (heap_lft HRCV6.out HL6S0.out)
  have HRDS0 := Lib.hid (heap_lft HRDV6.out HL6S0.out)
  have HRES0 := Lib.hid (heap_lft HREV6.out HL6S0.out)
  have HRMS0 := Lib.hid (heap_lft HRMV6.out HL6S0.out)
  have pC0 := heap_cell HRCS0.out (j := 0) rfl
  have pC1 := heap_cell HRCS0.out (j := 1) rfl
  have pD0 := heap_cell HRDS0.out (j := 0) rfl
  have pD1 := heap_cell HRDS0.out (j := 1) rfl
  have pE0 := heap_cell HRES0.out (j := 0) rfl
  have pE1 := heap_cell HRES0.out (j := 1) rfl
  have pM0 := heap_cell HRMS0.out (j := 0) rfl
  have pM1 := heap_cell HRMS0.out (j := 1) rfl
  go_wp2_with fail
  refine (same_true aC nC cC bC mC dC aD cD bD dD AC BC (by have := HNXC.out; omega) (by have := HNXC.out; omega) _ (HWCa.out.below HL6S0.out).nums (HWCb.out.below HL6S0.out).nums (HWDa.out.below HL6S0.out).nums (HWDb.out.below HL6S0.out).nums).mono ?_
  rintro e1 S1 ⟨rfl, hb⟩
  have HL6S1 := Lib.hid (below_thn HL6S0.out hb)
  clear hb pC0 pC1 pE0 pE1 pD0 pD1 pM0 pM1
  have HRAS1 := Lib.hid (heap_lft HRAV6.out HL6S1.out)
  have HRBS1 := Lib.hid (heap_lft HRBV6.out HL6S1.out)
  have HRCS1 := Lib.hid (heap_lft HRCV6.out HL6S1.out)
  have HRDS1 := Lib.hid (heap_lft HRDV6.out HL6S1.out)
  have HRES1 := Lib.hid (heap_lft HREV6.out HL6S1.out)
  have HRMS1 := Lib.hid (heap_lft HRMV6.out HL6S1.out)
  have pE0 := heap_cell HRES1.out (j := 0) rfl
  have pE1 := heap_cell HRES1.out (j := 1) rfl
  have pM0 := heap_cell HRMS1.out (j := 0) rfl
  have pM1 := heap_cell HRMS1.out (j := 1) rfl
  go_wp2_with fail
  refine (same_true aE nE cE bE mE dE aM cM bM dM AE BE (by have := HNXE.out; omega) (by have := HNXE.out; omega) _ (HWEa.out.below HL6S1.out).nums (HWEb.out.below HL6S1.out).nums (HWMa.out.below HL6S1.out).nums (HWMb.out.below HL6S1.out).nums).mono ?_
  rintro e1 S2 ⟨rfl, hb⟩
  have HL6S2 := Lib.hid (below_thn HL6S1.out hb)
  clear hb pE0 pE1 pM0 pM1
  have HRAS2 := Lib.hid (heap_lft HRAV6.out HL6S2.out)
  have HRBS2 := Lib.hid (heap_lft HRBV6.out HL6S2.out)
  have HRCS2 := Lib.hid (heap_lft HRCV6.out HL6S2.out)
  have HRDS2 := Lib.hid (heap_lft HRDV6.out HL6S2.out)
  have HRES2 := Lib.hid (heap_lft HREV6.out HL6S2.out)
  have HRMS2 := Lib.hid (heap_lft HRMV6.out HL6S2.out)
  have pA0 := heap_cell HRAS2.out (j := 0) rfl
  have pA1 := heap_cell HRAS2.out (j := 1) rfl
  have pC0 := heap_cell HRCS2.out (j := 0) rfl
  have pC1 := heap_cell HRCS2.out (j := 1) rfl
  have pE0 := heap_cell HRES2.out (j := 0) rfl
  have pE1 := heap_cell HRES2.out (j := 1) rfl
  go_upto_region 12 with fail
  obtain ⟨V7, hV7⟩ : ∃ x, S2.alloc (.cells #[.slice aA nA cA, .slice bA mA dA, .slice aC nC cC, .slice bC mC dC, .slice aE nE cE, .slice bE mE dE] 25) = x := ⟨_, rfl⟩
  have hb : Below S2.heap.size S2 V7 := by rw [← hV7]; exact below_new _ _
  have HLL : Hid (V7.heap[S2.heap.size]? = some (.cells #[.slice aA nA cA, .slice bA mA dA, .slice aC nC cC, .slice bC mC dC, .slice aE nE cE, .slice bE mE dE] 25)) := Lib.hid (by rw [← hV7]; exact heap_top _ _ rfl)
  have hszA0 : V0.heap.size ≤ PA.heap.size := HSZA.out
  have hsz6 : V6.heap.size ≤ S2.heap.size := HL6S2.out.size
  have hszA : PA.heap.size ≤ V6.heap.size := HQAV6.out.size
  have hszB : PB.heap.size ≤ V6.heap.size := HQBV6.out.size
  have hszC : PC.heap.size ≤ V6.heap.size := HQCV6.out.size
  have hszD : PD.heap.size ≤ V6.heap.size := HQDV6.out.size
  have hszE : PE.heap.size ≤ V6.heap.size := HQEV6.out.size
  have hszM : PM.heap.size ≤ V6.heap.size := HQMV6.out.size
  have hq2 : PA.heap.size ≤ V2.heap.size := HQAV2.out.size
  have hq4 : PA.heap.size ≤ V4.heap.size := HQAV4.out.size
  have hqC : V2.heap.size ≤ PC.heap.size := HSZC.out
  have hqE : V4.heap.size ≤ PE.heap.size := HSZE.out
  have HR1A : Hid (RowOk V7 V0.heap.size S2.heap.size 4 aA nA) := Lib.hid (((OwnNums.base (HWAa.out.below HL6S2.out) (by omega)).row).below hb)
  have HR2A : Hid (RowOk V7 V0.heap.size S2.heap.size 5 bA mA) := Lib.hid (((OwnNums.base (HWAb.out.below HL6S2.out) (by omega)).row).below hb)
  have HR1C : Hid (RowOk V7 V0.heap.size S2.heap.size 4 aC nC) := Lib.hid (((OwnNums.base (HWCa.out.below HL6S2.out) (by omega)).row).below hb)
  have HR2C : Hid (RowOk V7 V0.heap.size S2.heap.size 5 bC mC) := Lib.hid (((OwnNums.base (HWCb.out.below HL6S2.out) (by omega)).row).below hb)
  have HR1E : Hid (RowOk V7 V0.heap.size S2.heap.size 4 aE nE) := Lib.hid (((OwnNums.base (HWEa.out.below HL6S2.out) (by omega)).row).below hb)
  have HR2E : Hid (RowOk V7 V0.heap.size S2.heap.size 5 bE mE) := Lib.hid (((OwnNums.base (HWEb.out.below HL6S2.out) (by omega)).row).below hb)
  have HB07 : Hid (Below V0.heap.size V0 V7) := Lib.hid ((HB0PA.out.trans (HQAV6.out.mono hszA0)).trans ((HL6S2.out.mono (by omega)).trans (hb.mono (by omega))))
  have HSZ0 : Hid (V0.heap.size ≤ S2.heap.size) := Lib.hid (by omega)
  try rw [hV7]
  clear hV7 hb hszA0 hsz6 hq2 hq4 hqC hqE hszA hszB hszC hszD hszE hszM pA0 pA1 pC0 pC1 pE0 pE1
  go_loopw [27, 28, 29, 113] (fun _ _ _ i wr => ∃ k : Nat, k ≤ 3 ∧ i = .int .i64 k ∧ wr.heap[S2.heap.size]? = some (.cells #[.slice aA nA cA, .slice bA mA dA, .slice aC nC cC, .slice bC mC dC, .slice aE nE cE, .slice bE mE dE] 25) ∧ RowOk wr V0.heap.size S2.heap.size 4 aA nA ∧ RowOk wr V0.heap.size S2.heap.size 5 bA mA ∧ RowOk wr V0.heap.size S2.heap.size 4 aC nC ∧ RowOk wr V0.heap.size S2.heap.size 5 bC mC ∧ RowOk wr V0.heap.size S2.heap.size 4 aE nE ∧ RowOk wr V0.heap.size S2.heap.size 5 bE mE ∧ Below V0.heap.size V0 wr) (fun _ _ _ i _ => 3 - (intOf i).toNat)
  case atStart => exact ⟨0, by omega, rfl, HLL.out, HR1A.out, HR2A.out, HR1C.out, HR2C.out, HR1E.out, HR2E.out, HB07.out⟩
  case round =>
    obtain ⟨k, hk, rfl, hl, rA1, rA2, rC1, rC2, rE1, rE2, hb⟩ := hrel
    have HLk := Lib.hid hl
    have HrA1k := Lib.hid rA1
    have HrA2k := Lib.hid rA2
    have HrC1k := Lib.hid rC1
    have HrC2k := Lib.hid rC2
    have HrE1k := Lib.hid rE1
    have HrE2k := Lib.hid rE2
    have HBk := Lib.hid hb
    have HLT : Hid (S2.heap.size < wr.heap.size) := Lib.hid (Array.getElem?_eq_some_iff.1 hl).1
    clear hl rA1 rA2 rC1 rC2 rE1 rE2 hb
    have hk3 : k = 0 ∨ k = 1 ∨ k = 2 ∨ k = 3 := by omega
    rcases hk3 with rfl | rfl | rfl | rfl
    · have l0 := heap_cell HLk.out (j := 0) rfl
      have l1 := heap_cell HLk.out (j := 1) rfl
      go_upto_region 14 with fail
      obtain ⟨U, hU⟩ : ∃ x, wr.alloc (pressB aA nA cA bA mA dA) = x := ⟨_, rfl⟩
      have hb : Below wr.heap.size wr U := by rw [← hU]; exact below_new _ _
      have HZU : Hid (U.heap[wr.heap.size]? = some (pressB aA nA cA bA mA dA)) := Lib.hid (by rw [← hU]; exact heap_top _ _ rfl)
      have HLU := Lib.hid (heap_lft HLk.out hb)
      have HrA1U := Lib.hid (HrA1k.out.below hb)
      have HrA2U := Lib.hid (HrA2k.out.below hb)
      have HrC1U := Lib.hid (HrC1k.out.below hb)
      have HrC2U := Lib.hid (HrC2k.out.below hb)
      have HrE1U := Lib.hid (HrE1k.out.below hb)
      have HrE2U := Lib.hid (HrE2k.out.below hb)
      have HBU := Lib.hid (below_thn HBk.out hb)
      try rw [hU]
      clear hU hb l0 l1
      obtain ⟨wo, rfl⟩ : ∃ x, x = wr := ⟨_, rfl⟩
      have HLTwo : Hid (S2.heap.size < wo.heap.size) := HLT
      have z1 := heap_cell HZU.out (j := 0) rfl
      go_wp2_with fail
      clear z1
      go_loopw [28, 120] (fun _ i wr => ∃ q : Nat, q ≤ nA ∧ i = .int .i64 q ∧ wr.heap[wo.heap.size]? = some (pressB aA nA cA bA mA dA) ∧ wr.heap[S2.heap.size]? = some (.cells #[.slice aA nA cA, .slice bA mA dA, .slice aC nC cC, .slice bC mC dC, .slice aE nE cE, .slice bE mE dE] 25) ∧ RowOk wr V0.heap.size S2.heap.size 4 aA nA ∧ RowOk wr V0.heap.size S2.heap.size 5 bA mA ∧ RowOk wr V0.heap.size S2.heap.size 4 aC nC ∧ RowOk wr V0.heap.size S2.heap.size 5 bC mC ∧ RowOk wr V0.heap.size S2.heap.size 4 aE nE ∧ RowOk wr V0.heap.size S2.heap.size 5 bE mE ∧ Below V0.heap.size V0 wr) (fun _ i _ => nA - (intOf i).toNat)
      case atStart => exact ⟨0, Nat.zero_le _, rfl, HZU.out, HLU.out, HrA1U.out, HrA2U.out, HrC1U.out, HrC2U.out, HrE1U.out, HrE2U.out, HBU.out⟩
      case round =>
        obtain ⟨q, hq, rfl, hz, hl, rA1, rA2, rC1, rC2, rE1, rE2, hb⟩ := hrel
        have HZs1 := Lib.hid hz
        have HLs1 := Lib.hid hl
        have HrA1s1 := Lib.hid rA1
        have HrA2s1 := Lib.hid rA2
        have HrC1s1 := Lib.hid rC1
        have HrC2s1 := Lib.hid rC2
        have HrE1s1 := Lib.hid rE1
        have HrE2s1 := Lib.hid rE2
        have HBs1 := Lib.hid hb
        clear hz hl rA1 rA2 rC1 rC2 rE1 rE2 hb
        have z1 := heap_cell HZs1.out (j := 0) rfl
        have hnx : nA ≤ 51 := by have := HNXA.out; omega
        by_cases hq1 : q < nA
        · rcases HrA1s1.out with h0 | ⟨g, cur, ty, h9, g1, g2, g3, g4⟩
          · exact absurd hq1 (by omega)
          · have HAX := Lib.hid h9
            rw [h9] at z1
            have n1 : (q : Int) < nA := by omega
            obtain ⟨cv, hcv⟩ := cell_ex g3 (show q * 4 + 1 < cur.size by omega)
            have hfz := heap_frozen g3 (q * 4 + 1)
            have G1 := Lib.hid (And.intro g1 g2)
            clear g1 g2 g3 g4 h9
            go_wp2_with fail
            go_roundw
            case rel => exact ⟨q + 1, by omega, by go_num, (Below.heap_setCell _ _ _ _ (by have := G1.out; have := HLTwo.out; dsimp only; omega)).trans HZs1.out, (Below.heap_setCell _ _ _ _ (by have := G1.out; dsimp only; omega)).trans HLs1.out, HrA1s1.out.set _ _ _, HrA2s1.out.set _ _ _, HrC1s1.out.set _ _ _, HrC2s1.out.set _ _ _, HrE1s1.out.set _ _ _, HrE2s1.out.set _ _ _, HBs1.out.setCell G1.out.1 _⟩
            case measure => simp [intOf]; omega
        · obtain rfl : nA = q := by omega
          have n1 : ¬ (nA : Int) < nA := by omega
          clear z1
          have z1 := heap_cell HZs1.out (j := 1) rfl
          go_wp2_with fail
          clear z1
          go_loopw [29, 132] (fun _ i wr => ∃ q : Nat, q ≤ mA ∧ i = .int .i64 q ∧ wr.heap[wo.heap.size]? = some (pressB aA nA cA bA mA dA) ∧ wr.heap[S2.heap.size]? = some (.cells #[.slice aA nA cA, .slice bA mA dA, .slice aC nC cC, .slice bC mC dC, .slice aE nE cE, .slice bE mE dE] 25) ∧ RowOk wr V0.heap.size S2.heap.size 4 aA nA ∧ RowOk wr V0.heap.size S2.heap.size 5 bA mA ∧ RowOk wr V0.heap.size S2.heap.size 4 aC nC ∧ RowOk wr V0.heap.size S2.heap.size 5 bC mC ∧ RowOk wr V0.heap.size S2.heap.size 4 aE nE ∧ RowOk wr V0.heap.size S2.heap.size 5 bE mE ∧ Below V0.heap.size V0 wr) (fun _ i _ => mA - (intOf i).toNat)
          case atStart => exact ⟨0, Nat.zero_le _, rfl, HZs1.out, HLs1.out, HrA1s1.out, HrA2s1.out, HrC1s1.out, HrC2s1.out, HrE1s1.out, HrE2s1.out, HBs1.out⟩
          case round =>
            obtain ⟨q, hq, rfl, hz, hl, rA1, rA2, rC1, rC2, rE1, rE2, hb⟩ := hrel
            have HZs2 := Lib.hid hz
            have HLs2 := Lib.hid hl
            have HrA1s2 := Lib.hid rA1
            have HrA2s2 := Lib.hid rA2
            have HrC1s2 := Lib.hid rC1
            have HrC2s2 := Lib.hid rC2
            have HrE1s2 := Lib.hid rE1
            have HrE2s2 := Lib.hid rE2
            have HBs2 := Lib.hid hb
            clear hz hl rA1 rA2 rC1 rC2 rE1 rE2 hb
            have z1 := heap_cell HZs2.out (j := 1) rfl
            have hnx : mA ≤ 51 := by have := HNXA.out; omega
            by_cases hq1 : q < mA
            · rcases HrA2s2.out with h0 | ⟨g, cur, ty, h9, g1, g2, g3, g4⟩
              · exact absurd hq1 (by omega)
              · have HAX := Lib.hid h9
                rw [h9] at z1
                have n1 : (q : Int) < mA := by omega
                obtain ⟨cv, hcv⟩ := cell_ex g3 (show q * 5 + 2 < cur.size by omega)
                have hfz := heap_frozen g3 (q * 5 + 2)
                have G1 := Lib.hid (And.intro g1 g2)
                clear g1 g2 g3 g4 h9
                go_wp2_with fail
                go_roundw
                case rel => exact ⟨q + 1, by omega, by go_num, (Below.heap_setCell _ _ _ _ (by have := G1.out; have := HLTwo.out; dsimp only; omega)).trans HZs2.out, (Below.heap_setCell _ _ _ _ (by have := G1.out; dsimp only; omega)).trans HLs2.out, HrA1s2.out.set _ _ _, HrA2s2.out.set _ _ _, HrC1s2.out.set _ _ _, HrC2s2.out.set _ _ _, HrE1s2.out.set _ _ _, HrE2s2.out.set _ _ _, HBs2.out.setCell G1.out.1 _⟩
                case measure => simp [intOf]; omega
            · obtain rfl : mA = q := by omega
              have n1 : ¬ (mA : Int) < mA := by omega
              go_wp2_with fail
              go_roundw
              case rel => exact ⟨1, by omega, rfl, HLs2.out, HrA1s2.out, HrA2s2.out, HrC1s2.out, HrC2s2.out, HrE1s2.out, HrE2s2.out, HBs2.out⟩
              case measure => simp [intOf]
    · have l0 := heap_cell HLk.out (j := 2) rfl
      have l1 := heap_cell HLk.out (j := 3) rfl
      go_upto_region 14 with fail
      obtain ⟨U, hU⟩ : ∃ x, wr.alloc (pressB aC nC cC bC mC dC) = x := ⟨_, rfl⟩
      have hb : Below wr.heap.size wr U := by rw [← hU]; exact below_new _ _
      have HZU : Hid (U.heap[wr.heap.size]? = some (pressB aC nC cC bC mC dC)) := Lib.hid (by rw [← hU]; exact heap_top _ _ rfl)
      have HLU := Lib.hid (heap_lft HLk.out hb)
      have HrA1U := Lib.hid (HrA1k.out.below hb)
      have HrA2U := Lib.hid (HrA2k.out.below hb)
      have HrC1U := Lib.hid (HrC1k.out.below hb)
      have HrC2U := Lib.hid (HrC2k.out.below hb)
      have HrE1U := Lib.hid (HrE1k.out.below hb)
      have HrE2U := Lib.hid (HrE2k.out.below hb)
      have HBU := Lib.hid (below_thn HBk.out hb)
      try rw [hU]
      clear hU hb l0 l1
      obtain ⟨wo, rfl⟩ : ∃ x, x = wr := ⟨_, rfl⟩
      have HLTwo : Hid (S2.heap.size < wo.heap.size) := HLT
      have z1 := heap_cell HZU.out (j := 0) rfl
      go_wp2_with fail
      clear z1
      go_loopw [28, 120] (fun _ i wr => ∃ q : Nat, q ≤ nC ∧ i = .int .i64 q ∧ wr.heap[wo.heap.size]? = some (pressB aC nC cC bC mC dC) ∧ wr.heap[S2.heap.size]? = some (.cells #[.slice aA nA cA, .slice bA mA dA, .slice aC nC cC, .slice bC mC dC, .slice aE nE cE, .slice bE mE dE] 25) ∧ RowOk wr V0.heap.size S2.heap.size 4 aA nA ∧ RowOk wr V0.heap.size S2.heap.size 5 bA mA ∧ RowOk wr V0.heap.size S2.heap.size 4 aC nC ∧ RowOk wr V0.heap.size S2.heap.size 5 bC mC ∧ RowOk wr V0.heap.size S2.heap.size 4 aE nE ∧ RowOk wr V0.heap.size S2.heap.size 5 bE mE ∧ Below V0.heap.size V0 wr) (fun _ i _ => nC - (intOf i).toNat)
      case atStart => exact ⟨0, Nat.zero_le _, rfl, HZU.out, HLU.out, HrA1U.out, HrA2U.out, HrC1U.out, HrC2U.out, HrE1U.out, HrE2U.out, HBU.out⟩
      case round =>
        obtain ⟨q, hq, rfl, hz, hl, rA1, rA2, rC1, rC2, rE1, rE2, hb⟩ := hrel
        have HZs1 := Lib.hid hz
        have HLs1 := Lib.hid hl
        have HrA1s1 := Lib.hid rA1
        have HrA2s1 := Lib.hid rA2
        have HrC1s1 := Lib.hid rC1
        have HrC2s1 := Lib.hid rC2
        have HrE1s1 := Lib.hid rE1
        have HrE2s1 := Lib.hid rE2
        have HBs1 := Lib.hid hb
        clear hz hl rA1 rA2 rC1 rC2 rE1 rE2 hb
        have z1 := heap_cell HZs1.out (j := 0) rfl
        have hnx : nC ≤ 51 := by have := HNXC.out; omega
        by_cases hq1 : q < nC
        · rcases HrC1s1.out with h0 | ⟨g, cur, ty, h9, g1, g2, g3, g4⟩
          · exact absurd hq1 (by omega)
          · have HAX := Lib.hid h9
            rw [h9] at z1
            have n1 : (q : Int) < nC := by omega
            obtain ⟨cv, hcv⟩ := cell_ex g3 (show q * 4 + 1 < cur.size by omega)
            have hfz := heap_frozen g3 (q * 4 + 1)
            have G1 := Lib.hid (And.intro g1 g2)
            clear g1 g2 g3 g4 h9
            go_wp2_with fail
            go_roundw
            case rel => exact ⟨q + 1, by omega, by go_num, (Below.heap_setCell _ _ _ _ (by have := G1.out; have := HLTwo.out; dsimp only; omega)).trans HZs1.out, (Below.heap_setCell _ _ _ _ (by have := G1.out; dsimp only; omega)).trans HLs1.out, HrA1s1.out.set _ _ _, HrA2s1.out.set _ _ _, HrC1s1.out.set _ _ _, HrC2s1.out.set _ _ _, HrE1s1.out.set _ _ _, HrE2s1.out.set _ _ _, HBs1.out.setCell G1.out.1 _⟩
            case measure => simp [intOf]; omega
        · obtain rfl : nC = q := by omega
          have n1 : ¬ (nC : Int) < nC := by omega
          clear z1
          have z1 := heap_cell HZs1.out (j := 1) rfl
          go_wp2_with fail
          clear z1
          go_loopw [29, 132] (fun _ i wr => ∃ q : Nat, q ≤ mC ∧ i = .int .i64 q ∧ wr.heap[wo.heap.size]? = some (pressB aC nC cC bC mC dC) ∧ wr.heap[S2.heap.size]? = some (.cells #[.slice aA nA cA, .slice bA mA dA, .slice aC nC cC, .slice bC mC dC, .slice aE nE cE, .slice bE mE dE] 25) ∧ RowOk wr V0.heap.size S2.heap.size 4 aA nA ∧ RowOk wr V0.heap.size S2.heap.size 5 bA mA ∧ RowOk wr V0.heap.size S2.heap.size 4 aC nC ∧ RowOk wr V0.heap.size S2.heap.size 5 bC mC ∧ RowOk wr V0.heap.size S2.heap.size 4 aE nE ∧ RowOk wr V0.heap.size S2.heap.size 5 bE mE ∧ Below V0.heap.size V0 wr) (fun _ i _ => mC - (intOf i).toNat)
          case atStart => exact ⟨0, Nat.zero_le _, rfl, HZs1.out, HLs1.out, HrA1s1.out, HrA2s1.out, HrC1s1.out, HrC2s1.out, HrE1s1.out, HrE2s1.out, HBs1.out⟩
          case round =>
            obtain ⟨q, hq, rfl, hz, hl, rA1, rA2, rC1, rC2, rE1, rE2, hb⟩ := hrel
            have HZs2 := Lib.hid hz
            have HLs2 := Lib.hid hl
            have HrA1s2 := Lib.hid rA1
            have HrA2s2 := Lib.hid rA2
            have HrC1s2 := Lib.hid rC1
            have HrC2s2 := Lib.hid rC2
            have HrE1s2 := Lib.hid rE1
            have HrE2s2 := Lib.hid rE2
            have HBs2 := Lib.hid hb
            clear hz hl rA1 rA2 rC1 rC2 rE1 rE2 hb
            have z1 := heap_cell HZs2.out (j := 1) rfl
            have hnx : mC ≤ 51 := by have := HNXC.out; omega
            by_cases hq1 : q < mC
            · rcases HrC2s2.out with h0 | ⟨g, cur, ty, h9, g1, g2, g3, g4⟩
              · exact absurd hq1 (by omega)
              · have HAX := Lib.hid h9
                rw [h9] at z1
                have n1 : (q : Int) < mC := by omega
                obtain ⟨cv, hcv⟩ := cell_ex g3 (show q * 5 + 2 < cur.size by omega)
                have hfz := heap_frozen g3 (q * 5 + 2)
                have G1 := Lib.hid (And.intro g1 g2)
                clear g1 g2 g3 g4 h9
                go_wp2_with fail
                go_roundw
                case rel => exact ⟨q + 1, by omega, by go_num, (Below.heap_setCell _ _ _ _ (by have := G1.out; have := HLTwo.out; dsimp only; omega)).trans HZs2.out, (Below.heap_setCell _ _ _ _ (by have := G1.out; dsimp only; omega)).trans HLs2.out, HrA1s2.out.set _ _ _, HrA2s2.out.set _ _ _, HrC1s2.out.set _ _ _, HrC2s2.out.set _ _ _, HrE1s2.out.set _ _ _, HrE2s2.out.set _ _ _, HBs2.out.setCell G1.out.1 _⟩
                case measure => simp [intOf]; omega
            · obtain rfl : mC = q := by omega
              have n1 : ¬ (mC : Int) < mC := by omega
              go_wp2_with fail
              go_roundw
              case rel => exact ⟨2, by omega, rfl, HLs2.out, HrA1s2.out, HrA2s2.out, HrC1s2.out, HrC2s2.out, HrE1s2.out, HrE2s2.out, HBs2.out⟩
              case measure => simp [intOf]
    · have l0 := heap_cell HLk.out (j := 4) rfl
      have l1 := heap_cell HLk.out (j := 5) rfl
      go_upto_region 14 with fail
      obtain ⟨U, hU⟩ : ∃ x, wr.alloc (pressB aE nE cE bE mE dE) = x := ⟨_, rfl⟩
      have hb : Below wr.heap.size wr U := by rw [← hU]; exact below_new _ _
      have HZU : Hid (U.heap[wr.heap.size]? = some (pressB aE nE cE bE mE dE)) := Lib.hid (by rw [← hU]; exact heap_top _ _ rfl)
      have HLU := Lib.hid (heap_lft HLk.out hb)
      have HrA1U := Lib.hid (HrA1k.out.below hb)
      have HrA2U := Lib.hid (HrA2k.out.below hb)
      have HrC1U := Lib.hid (HrC1k.out.below hb)
      have HrC2U := Lib.hid (HrC2k.out.below hb)
      have HrE1U := Lib.hid (HrE1k.out.below hb)
      have HrE2U := Lib.hid (HrE2k.out.below hb)
      have HBU := Lib.hid (below_thn HBk.out hb)
      try rw [hU]
      clear hU hb l0 l1
      obtain ⟨wo, rfl⟩ : ∃ x, x = wr := ⟨_, rfl⟩
      have HLTwo : Hid (S2.heap.size < wo.heap.size) := HLT
      have z1 := heap_cell HZU.out (j := 0) rfl
      go_wp2_with fail
      clear z1
      go_loopw [28, 120] (fun _ i wr => ∃ q : Nat, q ≤ nE ∧ i = .int .i64 q ∧ wr.heap[wo.heap.size]? = some (pressB aE nE cE bE mE dE) ∧ wr.heap[S2.heap.size]? = some (.cells #[.slice aA nA cA, .slice bA mA dA, .slice aC nC cC, .slice bC mC dC, .slice aE nE cE, .slice bE mE dE] 25) ∧ RowOk wr V0.heap.size S2.heap.size 4 aA nA ∧ RowOk wr V0.heap.size S2.heap.size 5 bA mA ∧ RowOk wr V0.heap.size S2.heap.size 4 aC nC ∧ RowOk wr V0.heap.size S2.heap.size 5 bC mC ∧ RowOk wr V0.heap.size S2.heap.size 4 aE nE ∧ RowOk wr V0.heap.size S2.heap.size 5 bE mE ∧ Below V0.heap.size V0 wr) (fun _ i _ => nE - (intOf i).toNat)
      case atStart => exact ⟨0, Nat.zero_le _, rfl, HZU.out, HLU.out, HrA1U.out, HrA2U.out, HrC1U.out, HrC2U.out, HrE1U.out, HrE2U.out, HBU.out⟩
      case round =>
        obtain ⟨q, hq, rfl, hz, hl, rA1, rA2, rC1, rC2, rE1, rE2, hb⟩ := hrel
        have HZs1 := Lib.hid hz
        have HLs1 := Lib.hid hl
        have HrA1s1 := Lib.hid rA1
        have HrA2s1 := Lib.hid rA2
        have HrC1s1 := Lib.hid rC1
        have HrC2s1 := Lib.hid rC2
        have HrE1s1 := Lib.hid rE1
        have HrE2s1 := Lib.hid rE2
        have HBs1 := Lib.hid hb
        clear hz hl rA1 rA2 rC1 rC2 rE1 rE2 hb
        have z1 := heap_cell HZs1.out (j := 0) rfl
        have hnx : nE ≤ 51 := by have := HNXE.out; omega
        by_cases hq1 : q < nE
        · rcases HrE1s1.out with h0 | ⟨g, cur, ty, h9, g1, g2, g3, g4⟩
          · exact absurd hq1 (by omega)
          · have HAX := Lib.hid h9
            rw [h9] at z1
            have n1 : (q : Int) < nE := by omega
            obtain ⟨cv, hcv⟩ := cell_ex g3 (show q * 4 + 1 < cur.size by omega)
            have hfz := heap_frozen g3 (q * 4 + 1)
            have G1 := Lib.hid (And.intro g1 g2)
            clear g1 g2 g3 g4 h9
            go_wp2_with fail
            go_roundw
            case rel => exact ⟨q + 1, by omega, by go_num, (Below.heap_setCell _ _ _ _ (by have := G1.out; have := HLTwo.out; dsimp only; omega)).trans HZs1.out, (Below.heap_setCell _ _ _ _ (by have := G1.out; dsimp only; omega)).trans HLs1.out, HrA1s1.out.set _ _ _, HrA2s1.out.set _ _ _, HrC1s1.out.set _ _ _, HrC2s1.out.set _ _ _, HrE1s1.out.set _ _ _, HrE2s1.out.set _ _ _, HBs1.out.setCell G1.out.1 _⟩
            case measure => simp [intOf]; omega
        · obtain rfl : nE = q := by omega
          have n1 : ¬ (nE : Int) < nE := by omega
          clear z1
          have z1 := heap_cell HZs1.out (j := 1) rfl
          go_wp2_with fail
          clear z1
          go_loopw [29, 132] (fun _ i wr => ∃ q : Nat, q ≤ mE ∧ i = .int .i64 q ∧ wr.heap[wo.heap.size]? = some (pressB aE nE cE bE mE dE) ∧ wr.heap[S2.heap.size]? = some (.cells #[.slice aA nA cA, .slice bA mA dA, .slice aC nC cC, .slice bC mC dC, .slice aE nE cE, .slice bE mE dE] 25) ∧ RowOk wr V0.heap.size S2.heap.size 4 aA nA ∧ RowOk wr V0.heap.size S2.heap.size 5 bA mA ∧ RowOk wr V0.heap.size S2.heap.size 4 aC nC ∧ RowOk wr V0.heap.size S2.heap.size 5 bC mC ∧ RowOk wr V0.heap.size S2.heap.size 4 aE nE ∧ RowOk wr V0.heap.size S2.heap.size 5 bE mE ∧ Below V0.heap.size V0 wr) (fun _ i _ => mE - (intOf i).toNat)
          case atStart => exact ⟨0, Nat.zero_le _, rfl, HZs1.out, HLs1.out, HrA1s1.out, HrA2s1.out, HrC1s1.out, HrC2s1.out, HrE1s1.out, HrE2s1.out, HBs1.out⟩
          case round =>
            obtain ⟨q, hq, rfl, hz, hl, rA1, rA2, rC1, rC2, rE1, rE2, hb⟩ := hrel
            have HZs2 := Lib.hid hz
            have HLs2 := Lib.hid hl
            have HrA1s2 := Lib.hid rA1
            have HrA2s2 := Lib.hid rA2
            have HrC1s2 := Lib.hid rC1
            have HrC2s2 := Lib.hid rC2
            have HrE1s2 := Lib.hid rE1
            have HrE2s2 := Lib.hid rE2
            have HBs2 := Lib.hid hb
            clear hz hl rA1 rA2 rC1 rC2 rE1 rE2 hb
            have z1 := heap_cell HZs2.out (j := 1) rfl
            have hnx : mE ≤ 51 := by have := HNXE.out; omega
            by_cases hq1 : q < mE
            · rcases HrE2s2.out with h0 | ⟨g, cur, ty, h9, g1, g2, g3, g4⟩
              · exact absurd hq1 (by omega)
              · have HAX := Lib.hid h9
                rw [h9] at z1
                have n1 : (q : Int) < mE := by omega
                obtain ⟨cv, hcv⟩ := cell_ex g3 (show q * 5 + 2 < cur.size by omega)
                have hfz := heap_frozen g3 (q * 5 + 2)
                have G1 := Lib.hid (And.intro g1 g2)
                clear g1 g2 g3 g4 h9
                go_wp2_with fail
                go_roundw
                case rel => exact ⟨q + 1, by omega, by go_num, (Below.heap_setCell _ _ _ _ (by have := G1.out; have := HLTwo.out; dsimp only; omega)).trans HZs2.out, (Below.heap_setCell _ _ _ _ (by have := G1.out; dsimp only; omega)).trans HLs2.out, HrA1s2.out.set _ _ _, HrA2s2.out.set _ _ _, HrC1s2.out.set _ _ _, HrC2s2.out.set _ _ _, HrE1s2.out.set _ _ _, HrE2s2.out.set _ _ _, HBs2.out.setCell G1.out.1 _⟩
                case measure => simp [intOf]; omega
            · obtain rfl : mE = q := by omega
              have n1 : ¬ (mE : Int) < mE := by omega
              go_wp2_with fail
              go_roundw
              case rel => exact ⟨3, by omega, rfl, HLs2.out, HrA1s2.out, HrA2s2.out, HrC1s2.out, HrC2s2.out, HrE1s2.out, HrE2s2.out, HBs2.out⟩
              case measure => simp [intOf]
    · have HT9 := Lib.hid (heap_lft HTV0.out HBk.out)
      have HX9 := Lib.hid (heap_lft HXV0.out HBk.out)
      have HA9 := Lib.hid (HAV0.out.below HBk.out)
      have HC9 := Lib.hid (HCV0.out.below HBk.out)
      have HF9 := Lib.hid (HFV0.out.below HBk.out)
      have HG9 := Lib.hid (HGV0.out.below HBk.out)
      have HLI9 := Lib.hid (HLIV0.out.below HBk.out)
      have HL9 := Lib.hid (HLV0.out.below HBk.out)
      have p0 := heap_cell HX9.out (j := 0) rfl
      have p1 := heap_cell HX9.out (j := 1) rfl
      have t0 := heap_cell HT9.out (j := 0) rfl
      have t1 := heap_cell HT9.out (j := 1) rfl
      go_wp2_with fail
      refine (same_true a1 n c1 a2 m c2 a c b d F G (by have := HN.out; omega) (by have := HN.out; omega) _ HA9.out.nums HC9.out.nums HF9.out HG9.out).mono ?_
      rintro e1 V9 ⟨rfl, hb⟩
      have HB9 := Lib.hid (below_thn (below_thn HBV0.out HBk.out) hb)
      have HLI10 := Lib.hid (HLI9.out.below hb)
      have HL10 := Lib.hid (HL9.out.below hb)
      clear hb p0 p1 t0 t1
      go_wp2_with fail
      refine (sameInts_any al la len cl cap L (by have := HN.out; omega) _ (by have h := HLI10.out.nums; rwa [Nat.mul_one] at h) HL10.out).mono ?_
      rintro e1 V10 ⟨rfl, hb⟩
      have HB10 := Lib.hid (below_thn HB9.out hb)
      clear hb
      go_wp2_with fail
      go_ret
      exact ⟨rfl, HB10.out⟩

end Go.Proofs.Ytmdmfiddabmaeaa
