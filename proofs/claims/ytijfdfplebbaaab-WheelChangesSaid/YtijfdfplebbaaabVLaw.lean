/-
  WheelChanges: the law's walk.
-/
import Derived.Test.YtijfdfplebbaaabVAdd
namespace Go.Proofs.Ytijfdfplebbaaab
open Go.RowKit

theorem OwnNums.nil {w : World} {base : Nat} {t : TypeId} {k : Nat} {a : Option Addr} {len cap : Nat} {F : Nat → Int} (h : OwnNums w base t k a len cap F) (e : a = none) : len = 0 ∧ cap = 0 := by
  rcases h.own_block with ⟨_, h1, h2⟩ | ⟨g, h1, _⟩
  · exact ⟨h1, h2⟩
  · rw [e] at h1; cases h1

set_option maxHeartbeats 400000000 in
set_option maxRecDepth 100000 in
theorem changes_walk (m : Int) (a : Option Addr) (n cc : Nat) (F : Nat → Int) (sa : Option Addr) (sn sc : Nat) (S : Nat → Int) (by_ c u p : Int) (hnil : a = none → n = 0) (hnl : sa = none → sn = 0) (w : World) (hF : NumsAt w a (n * 3) F) (hS : NumsAt w sa sn S) :
    Calls Try.prog 3 #[shaftV m a n cc, .slice sa sn sc, .int .i64 by_, stampV c u p] w fun e w' => e = .returned (.bool true) ∧ Below w.heap.size w w' := by
  obtain ⟨W, hW⟩ : ∃ W, (w.alloc (shaftB m a n cc)).alloc (stampB c u p) = W := ⟨_, rfl⟩
  have HB : Hid (Below w.heap.size w W) := Lib.hid (by rw [← hW]; exact (below_new _ _).alloc (by simp) _)
  have HX : Hid (W.heap[w.heap.size]? = some (shaftB m a n cc)) := Lib.hid (by rw [← hW]; exact heap_up (heap_top _ _ rfl) _)
  have HI : Hid (W.heap[w.heap.size + 1]? = some (stampB c u p)) := Lib.hid (by rw [← hW]; exact heap_top _ _ (by simp))
  have HR := Lib.hid (hF.below HB.out)
  have HL := Lib.hid (hS.below HB.out)
  have HNN := Lib.hid (And.intro hnil hnl)
  clear hF hS hnil hnl
  have x0 := heap_cell HX.out (j := 0) rfl
  have x1 := heap_cell HX.out (j := 1) rfl
  go_enter Try.func3, Try.ntmps3
  go_upto_region 1 with fail
  try rw [hW]
  clear hW
  go_wp2_with fail
  refine (great_any m a n cc _).mono ?_
  rintro e1 W1 ⟨rfl, hb⟩
  have HXW1 := Lib.hid (heap_lft HX.out hb)
  have HIW1 := Lib.hid (heap_lft HI.out hb)
  have HBW1 := Lib.hid (below_thn HB.out hb)
  have HRW1 := Lib.hid (HR.out.below hb)
  have HLW1 := Lib.hid (HL.out.below hb)
  clear hb x0 x1
  obtain ⟨gr, hgr⟩ : ∃ q, decide ((10 : Int) < n) = q := ⟨_, rfl⟩
  rw [hgr]
  have HGR := Lib.hid hgr
  clear hgr
  cases gr
  rotate_left
  · go_wp2_with fail
    go_ret
    exact ⟨rfl, HBW1.out⟩
  by_cases hl50 : (10 : Int) < sn
  · go_wp2_with fail
    go_ret
    exact ⟨rfl, HBW1.out⟩
  have HS : Hid (n ≤ 10 ∧ sn ≤ 10) := Lib.hid (by have h := of_decide_eq_false HGR.out; omega)
  have hl51 : (sn : Int) ≤ 10 := by omega
  have x0 := heap_cell HXW1.out (j := 0) rfl
  have x1 := heap_cell HXW1.out (j := 1) rfl
  go_wp2_with fail
  refine (twin_any m a n cc F (by have := HS.out; omega) HNN.out.1 _ HRW1.out).mono ?_
  rintro e1 W2 ⟨a1, c1, rfl, ho, hb⟩
  clear x0 x1 hl50
  have HXW2 := Lib.hid (heap_lft HXW1.out hb)
  have HIW2 := Lib.hid (heap_lft HIW1.out hb)
  have HBW2 := Lib.hid (below_thn HBW1.out hb)
  have HRW2 := Lib.hid (HRW1.out.below hb)
  have HLW2 := Lib.hid (HLW1.out.below hb)
  have HOW2 := Lib.hid ho
  clear hb ho
  obtain ⟨Y, hY⟩ : ∃ Y, W2.alloc (.cells #[] 3) = Y := ⟨_, rfl⟩
  have hby : Below W2.heap.size W2 Y := by rw [← hY]; exact below_new _ _
  have hoe : OwnNums Y W2.heap.size 3 1 (some ⟨W2.heap.size, 0, none⟩) 0 0 S := by rw [← hY]; exact own_empty _ _ _ rfl (Nat.le_refl _) _
  obtain ⟨i0, hi0, hz0, hz1, hz2⟩ := infoInt
  obtain ⟨al, cl, Z, hr, hol, _, hbe, _⟩ := app_own Y W2.heap.size 3 25 25 1 8 i0 _ Try.underlying25 hi0 hz0 hz1 hz2 rfl (by decide) (by decide) hoe sa sn sc S (by simpa using HLW2.out.below hby) HNN.out.2 (by omega) (by have := HS.out; omega) hby.size
  rw [Nat.zero_add] at hr hol
  have HLIZ : Hid (OwnNums Z W2.heap.size 3 1 al sn cl S) := Lib.hid (hol.congr (fun q hq => by simp [joinF]))
  have hbz : Below W2.heap.size W2 Z := hby.trans hbe
  rw [← hY] at hr
  have HAR := Lib.hid hr
  have HXZ := Lib.hid (heap_lft HXW2.out hbz)
  have HIZ := Lib.hid (heap_lft HIW2.out hbz)
  have HBZ := Lib.hid (below_thn HBW2.out hbz)
  have HRZ := Lib.hid (HRW2.out.below hbz)
  have HLZ := Lib.hid (HLW2.out.below hbz)
  have HOZ := Lib.hid (HOW2.out.below hbz)
  clear hY hby hoe hi0 hz0 hz1 hz2 hr hol hbe hbz
  go_upto_region 4 with (first | (at_builtin; refine Lib.wpList_append_run _ rfl _ _ _ _ rfl _ _ rfl rfl _ _ HAR.out ?_) | go_in)
  obtain ⟨V0, hV0⟩ : ∃ x, Z.alloc (shaftB m a1 n c1) = x := ⟨_, rfl⟩
  have hb : Below Z.heap.size Z V0 := by rw [← hV0]; exact below_new _ _
  have HTV0 : Hid (V0.heap[Z.heap.size]? = some (shaftB m a1 n c1)) := Lib.hid (by rw [← hV0]; exact heap_top _ _ rfl)
  have HXV0 := Lib.hid (heap_lft HXZ.out hb)
  have HIV0 := Lib.hid (heap_lft HIZ.out hb)
  have HRV0 := Lib.hid (HRZ.out.below hb)
  have HLV0 := Lib.hid (HLZ.out.below hb)
  have HOV0 := Lib.hid (HOZ.out.below hb)
  have HLIV0 := Lib.hid (HLIZ.out.below hb)
  have HBV0 := Lib.hid (below_thn HBZ.out hb)
  try rw [hV0]
  clear hV0 hb
  obtain ⟨cP, hcp⟩ : ∃ q, Pure.turnC m n F sn S by_ = q := ⟨_, rfl⟩
  have HCP := Lib.hid hcp
  obtain ⟨cS, hcs⟩ : ∃ q, Pure.addC m n F c u p = q := ⟨_, rfl⟩
  have HCS := Lib.hid hcs
  clear hcp hcs
  have x0 := heap_cell HTV0.out (j := 0) rfl
  have x1 := heap_cell HTV0.out (j := 1) rfl
  go_wp2_with fail
  refine (turnedTop_any m a1 n c1 F al sn cl S by_ (by have := HS.out; omega) (by have := HS.out; omega) _ HOV0.out.nums (by have h := HLIV0.out.nums; rwa [Nat.mul_one] at h)).mono ?_
  rintro e1 PA ⟨aA, nA, cA, rfl, hnA, hoA, hb⟩
  rw [HCP.out] at hnA
  rw [HCP.out]
  have HNA := Lib.hid hnA
  have HOA := Lib.hid hoA
  have HZA : Hid (V0.heap.size ≤ PA.heap.size) := Lib.hid hb.size
  clear hnA hoA x0 x1
  have HXPA := Lib.hid (heap_lft HXV0.out hb)
  have HIPA := Lib.hid (heap_lft HIV0.out hb)
  have HTPA := Lib.hid (heap_lft HTV0.out hb)
  have HRPA := Lib.hid (HRV0.out.below hb)
  have HLPA := Lib.hid (HLV0.out.below hb)
  have HOPA := Lib.hid (HOV0.out.below hb)
  have HLIPA := Lib.hid (HLIV0.out.below hb)
  have HBPA := Lib.hid (below_thn HBV0.out hb)
  have HQAPA : Hid (Below PA.heap.size PA PA) := Lib.hid (Below.refl _ _)
  have HB0PA : Hid (Below V0.heap.size V0 PA) := Lib.hid hb
  clear hb
  go_upto_region 5 with fail
  have x0 := heap_cell HXPA.out (j := 0) rfl
  have x1 := heap_cell HXPA.out (j := 1) rfl
  go_wp2_with fail
  refine (rTurned_any m a n cc F sa sn sc S by_ (by have := HS.out; omega) (by have := HS.out; omega) _ HRPA.out HLPA.out).mono ?_
  rintro e1 PB ⟨aB, nB, cB, rfl, hnB, hoB, hb⟩
  rw [HCP.out] at hnB
  rw [HCP.out]
  have HNB := Lib.hid hnB
  have HOB := Lib.hid hoB
  have HZB : Hid (PA.heap.size ≤ PB.heap.size) := Lib.hid hb.size
  clear hnB hoB x0 x1
  have HXPB := Lib.hid (heap_lft HXPA.out hb)
  have HIPB := Lib.hid (heap_lft HIPA.out hb)
  have HTPB := Lib.hid (heap_lft HTPA.out hb)
  have HRPB := Lib.hid (HRPA.out.below hb)
  have HLPB := Lib.hid (HLPA.out.below hb)
  have HOPB := Lib.hid (HOPA.out.below hb)
  have HLIPB := Lib.hid (HLIPA.out.below hb)
  have HBPB := Lib.hid (below_thn HBPA.out hb)
  have HQAPB := Lib.hid (below_thn HQAPA.out hb)
  have HQBPB : Hid (Below PB.heap.size PB PB) := Lib.hid (Below.refl _ _)
  have HB0PB : Hid (Below V0.heap.size V0 PB) := Lib.hid (below_thn HB0PA.out hb)
  clear hb
  go_upto_region 6 with fail
  have x0 := heap_cell HTPB.out (j := 0) rfl
  have x1 := heap_cell HTPB.out (j := 1) rfl
  have i0 := heap_cell HIPB.out (j := 0) rfl
  have i1 := heap_cell HIPB.out (j := 1) rfl
  have i2 := heap_cell HIPB.out (j := 2) rfl
  go_wp2_with fail
  refine (add_any m a1 n c1 F c u p (by have := HS.out; omega) (fun e => HOPB.out.nil e) _ HOPB.out.nums).mono ?_
  rintro e1 PC ⟨mC, aC, nC, cC, rfl, hmC, hnC, hoC, hb⟩
  rw [HCS.out] at hnC hmC
  rw [HCS.out]
  have HNC := Lib.hid hnC
  have HMC := Lib.hid hmC
  have HOC := Lib.hid hoC
  have HZC : Hid (PB.heap.size ≤ PC.heap.size) := Lib.hid hb.size
  clear hnC hoC x0 x1 hmC i0 i1 i2
  have HXPC := Lib.hid (heap_lft HXPB.out hb)
  have HIPC := Lib.hid (heap_lft HIPB.out hb)
  have HTPC := Lib.hid (heap_lft HTPB.out hb)
  have HRPC := Lib.hid (HRPB.out.below hb)
  have HLPC := Lib.hid (HLPB.out.below hb)
  have HOPC := Lib.hid (HOPB.out.below hb)
  have HLIPC := Lib.hid (HLIPB.out.below hb)
  have HBPC := Lib.hid (below_thn HBPB.out hb)
  have HQAPC := Lib.hid (below_thn HQAPB.out hb)
  have HQBPC := Lib.hid (below_thn HQBPB.out hb)
  have HQCPC : Hid (Below PC.heap.size PC PC) := Lib.hid (Below.refl _ _)
  have HB0PC : Hid (Below V0.heap.size V0 PC) := Lib.hid (below_thn HB0PB.out hb)
  clear hb
  go_upto_region 7 with fail
  obtain ⟨VC, hVC⟩ : ∃ x, PC.alloc (shaftB mC aC nC cC) = x := ⟨_, rfl⟩
  have hb : Below PC.heap.size PC VC := by rw [← hVC]; exact below_new _ _
  have HRCVC : Hid (VC.heap[PC.heap.size]? = some (shaftB mC aC nC cC)) := Lib.hid (by rw [← hVC]; exact heap_top _ _ rfl)
  have HXVC := Lib.hid (heap_lft HXPC.out hb)
  have HIVC := Lib.hid (heap_lft HIPC.out hb)
  have HTVC := Lib.hid (heap_lft HTPC.out hb)
  have HRVC := Lib.hid (HRPC.out.below hb)
  have HLVC := Lib.hid (HLPC.out.below hb)
  have HOVC := Lib.hid (HOPC.out.below hb)
  have HLIVC := Lib.hid (HLIPC.out.below hb)
  have HBVC := Lib.hid (below_thn HBPC.out hb)
  have HQAVC := Lib.hid (below_thn HQAPC.out hb)
  have HQBVC := Lib.hid (below_thn HQBPC.out hb)
  have HQCVC := Lib.hid (below_thn HQCPC.out hb)
  have HB0VC : Hid (Below V0.heap.size V0 VC) := Lib.hid (below_thn HB0PC.out hb)
  try rw [hVC]
  clear hVC hb
  have x0 := heap_cell HXVC.out (j := 0) rfl
  have x1 := heap_cell HXVC.out (j := 1) rfl
  have i0 := heap_cell HIVC.out (j := 0) rfl
  have i1 := heap_cell HIVC.out (j := 1) rfl
  have i2 := heap_cell HIVC.out (j := 2) rfl
  go_wp2_with fail
  refine (rAdd_any m a n cc F c u p (by have := HS.out; omega) HNN.out.1 _ HRVC.out).mono ?_
  rintro e1 PD ⟨mD, aD, nD, cD, rfl, hmD, hnD, hoD, hb⟩
  rw [HCS.out] at hnD hmD
  rw [HCS.out]
  have HND := Lib.hid hnD
  have HMD := Lib.hid hmD
  have HOD := Lib.hid hoD
  have HZD : Hid (VC.heap.size ≤ PD.heap.size) := Lib.hid hb.size
  clear hnD hoD x0 x1 hmD i0 i1 i2
  have HXPD := Lib.hid (heap_lft HXVC.out hb)
  have HIPD := Lib.hid (heap_lft HIVC.out hb)
  have HTPD := Lib.hid (heap_lft HTVC.out hb)
  have HRCPD := Lib.hid (heap_lft HRCVC.out hb)
  have HRPD := Lib.hid (HRVC.out.below hb)
  have HLPD := Lib.hid (HLVC.out.below hb)
  have HOPD := Lib.hid (HOVC.out.below hb)
  have HLIPD := Lib.hid (HLIVC.out.below hb)
  have HBPD := Lib.hid (below_thn HBVC.out hb)
  have HQAPD := Lib.hid (below_thn HQAVC.out hb)
  have HQBPD := Lib.hid (below_thn HQBVC.out hb)
  have HQCPD := Lib.hid (below_thn HQCVC.out hb)
  have HQDPD : Hid (Below PD.heap.size PD PD) := Lib.hid (Below.refl _ _)
  have HB0PD : Hid (Below V0.heap.size V0 PD) := Lib.hid (below_thn HB0VC.out hb)
  clear hb
  go_upto_region 8 with fail
  obtain ⟨VD, hVD⟩ : ∃ x, PD.alloc (shaftB mD aD nD cD) = x := ⟨_, rfl⟩
  have hb : Below PD.heap.size PD VD := by rw [← hVD]; exact below_new _ _
  have HRDVD : Hid (VD.heap[PD.heap.size]? = some (shaftB mD aD nD cD)) := Lib.hid (by rw [← hVD]; exact heap_top _ _ rfl)
  have HXVD := Lib.hid (heap_lft HXPD.out hb)
  have HIVD := Lib.hid (heap_lft HIPD.out hb)
  have HTVD := Lib.hid (heap_lft HTPD.out hb)
  have HRCVD := Lib.hid (heap_lft HRCPD.out hb)
  have HRVD := Lib.hid (HRPD.out.below hb)
  have HLVD := Lib.hid (HLPD.out.below hb)
  have HOVD := Lib.hid (HOPD.out.below hb)
  have HLIVD := Lib.hid (HLIPD.out.below hb)
  have HBVD := Lib.hid (below_thn HBPD.out hb)
  have HQAVD := Lib.hid (below_thn HQAPD.out hb)
  have HQBVD := Lib.hid (below_thn HQBPD.out hb)
  have HQCVD := Lib.hid (below_thn HQCPD.out hb)
  have HQDVD := Lib.hid (below_thn HQDPD.out hb)
  have HB0VD : Hid (Below V0.heap.size V0 VD) := Lib.hid (below_thn HB0PD.out hb)
  try rw [hVD]
  clear hVD hb
  have hAB := HNB.out.trans HNA.out.symm
  subst hAB
  have hMM := HMD.out.trans HMC.out.symm
  subst hMM
  have hCD := HND.out.trans HNC.out.symm
  subst hCD
  have HNX : Hid (nB ≤ 10 ∧ nD ≤ 11) := Lib.hid (by
    have h1 := HNB.out
    have h2 := HND.out
    have h3 := HS.out
    constructor
    · rw [h1]; split <;> omega
    · rw [h2]; split <;> omega)
  have HWA := Lib.hid (HOA.out.below HQAVD.out)
  have HWB := Lib.hid (HOB.out.below HQBVD.out)
  have HWC := Lib.hid (HOC.out.below HQCVD.out)
  have HWD := Lib.hid (HOD.out.below HQDVD.out)
  have p0 := heap_cell HRCVD.out (j := 0) rfl
  have p1 := heap_cell HRCVD.out (j := 1) rfl
  have q0 := heap_cell HRDVD.out (j := 0) rfl
  have q1 := heap_cell HRDVD.out (j := 1) rfl
  go_wp2_with fail
  refine (sameInts_any aA aB nB cA cB (Pure.turnF m F S by_) (by have := HNX.out; omega) _ (by have h := HWA.out.nums; rwa [Nat.mul_one] at h) (by have h := HWB.out.nums; rwa [Nat.mul_one] at h)).mono ?_
  rintro e1 S0 ⟨rfl, hb⟩
  have HXS0 := Lib.hid (heap_lft HXVD.out hb)
  have HIS0 := Lib.hid (heap_lft HIVD.out hb)
  have HTS0 := Lib.hid (heap_lft HTVD.out hb)
  have HRCS0 := Lib.hid (heap_lft HRCVD.out hb)
  have HRDS0 := Lib.hid (heap_lft HRDVD.out hb)
  have HRS0 := Lib.hid (HRVD.out.below hb)
  have HLS0 := Lib.hid (HLVD.out.below hb)
  have HOS0 := Lib.hid (HOVD.out.below hb)
  have HLIS0 := Lib.hid (HLIVD.out.below hb)
  have HBS0 := Lib.hid (below_thn HBVD.out hb)
  have HQAS0 := Lib.hid (below_thn HQAVD.out hb)
  have HQBS0 := Lib.hid (below_thn HQBVD.out hb)
  have HQCS0 := Lib.hid (below_thn HQCVD.out hb)
  have HQDS0 := Lib.hid (below_thn HQDVD.out hb)
  have HL6S0 := Lib.hid hb
  clear hb p0 p1 q0 q1
  have p0 := heap_cell HRCS0.out (j := 0) rfl
  have p1 := heap_cell HRCS0.out (j := 1) rfl
  have q0 := heap_cell HRDS0.out (j := 0) rfl
  have q1 := heap_cell HRDS0.out (j := 1) rfl
  go_wp2_with fail
  refine (same_true mD aC nD cC aD cD (Pure.appF F n c u p) (by have := HNX.out; omega) _ (HWC.out.below HL6S0.out).nums (HWD.out.below HL6S0.out).nums).mono ?_
  rintro e1 S1 ⟨rfl, hb⟩
  have HXS1 := Lib.hid (heap_lft HXS0.out hb)
  have HIS1 := Lib.hid (heap_lft HIS0.out hb)
  have HTS1 := Lib.hid (heap_lft HTS0.out hb)
  have HRCS1 := Lib.hid (heap_lft HRCS0.out hb)
  have HRDS1 := Lib.hid (heap_lft HRDS0.out hb)
  have HRS1 := Lib.hid (HRS0.out.below hb)
  have HLS1 := Lib.hid (HLS0.out.below hb)
  have HOS1 := Lib.hid (HOS0.out.below hb)
  have HLIS1 := Lib.hid (HLIS0.out.below hb)
  have HBS1 := Lib.hid (below_thn HBS0.out hb)
  have HQAS1 := Lib.hid (below_thn HQAS0.out hb)
  have HQBS1 := Lib.hid (below_thn HQBS0.out hb)
  have HQCS1 := Lib.hid (below_thn HQCS0.out hb)
  have HQDS1 := Lib.hid (below_thn HQDS0.out hb)
  have HL6S1 := Lib.hid (below_thn HL6S0.out hb)
  clear hb p0 p1 q0 q1
  have hs1 : V0.heap.size ≤ PA.heap.size := HZA.out
  have hs2 : PA.heap.size ≤ PB.heap.size := HZB.out
  have hs3 : PB.heap.size ≤ PC.heap.size := HZC.out
  have HRA : Hid (RowOk S1 V0.heap.size PA.heap.size 1 aA nB) := Lib.hid (HOA.out.row.below HQAS1.out)
  have HRCR : Hid (RowOk S1 V0.heap.size PC.heap.size 3 aC nD) := Lib.hid ((OwnNums.row (OwnNums.base HOC.out (by omega))).below HQCS1.out)
  have HB0S1 : Hid (Below V0.heap.size V0 S1) := Lib.hid (HB0VD.out.trans (HL6S1.out.mono (HB0VD.out.size)))
  have HSZ : Hid (V0.heap.size ≤ PA.heap.size ∧ PA.heap.size ≤ PC.heap.size) := Lib.hid (by omega)
  clear hs1 hs2 hs3
  go_wp2_with fail
  go_loopw [20, 80] (fun _ i wr => ∃ q : Nat, q ≤ nB ∧ i = .int .i64 q ∧ RowOk wr V0.heap.size PA.heap.size 1 aA nB ∧ RowOk wr V0.heap.size PC.heap.size 3 aC nD ∧ wr.heap[PC.heap.size]? = some (shaftB mD aC nD cC) ∧ Below V0.heap.size V0 wr) (fun _ i _ => nB - (intOf i).toNat)
  case atStart => exact ⟨0, Nat.zero_le _, rfl, HRA.out, HRCR.out, HRCS1.out, HB0S1.out⟩
  case round =>
    obtain ⟨q, hq, rfl, ra, rc, rb, hb⟩ := hrel
    have HAs0 := Lib.hid ra
    have HCs0 := Lib.hid rc
    have HXs0 := Lib.hid rb
    have HBs0 := Lib.hid hb
    clear ra rc rb hb
    have hnx : nB ≤ 20 := by have := HNX.out; omega
    by_cases hq1 : q < nB
    · rcases HAs0.out with h0 | ⟨g, cur, ty, h9, g1, g2, g3, g4⟩
      · exact absurd hq1 (by omega)
      · subst h9
        have n1 : (q : Int) < nB := by omega
        obtain ⟨cv, hcv⟩ := cell_ex g3 (show q < cur.size by omega)
        have hfz := heap_frozen g3 (q)
        have G1 := Lib.hid (And.intro g1 g2)
        clear g1 g2 g3 g4
        go_wp2_with fail
        go_roundw
        case rel => exact ⟨q + 1, by omega, by go_num, HAs0.out.set _ _ _, HCs0.out.set _ _ _, (Below.heap_setCell _ _ _ _ (by have := G1.out; have := HSZ.out; dsimp only; omega)).trans HXs0.out, HBs0.out.setCell G1.out.1 _⟩
        case measure => simp [intOf]; omega
    · obtain rfl : nB = q := by omega
      have n1 : ¬ (nB : Int) < nB := by omega
      have z1 := heap_cell HXs0.out (j := 1) rfl
      go_wp2_with fail
      clear z1
      go_loopw [21, 90] (fun _ i wr => ∃ q : Nat, q ≤ nD ∧ i = .int .i64 q ∧ RowOk wr V0.heap.size PA.heap.size 1 aA nB ∧ RowOk wr V0.heap.size PC.heap.size 3 aC nD ∧ wr.heap[PC.heap.size]? = some (shaftB mD aC nD cC) ∧ Below V0.heap.size V0 wr) (fun _ i _ => nD - (intOf i).toNat)
      case atStart => exact ⟨0, Nat.zero_le _, rfl, HAs0.out, HCs0.out, HXs0.out, HBs0.out⟩
      case round =>
        obtain ⟨q, hq, rfl, ra, rc, rb, hb⟩ := hrel
        have HAs1 := Lib.hid ra
        have HCs1 := Lib.hid rc
        have HXs1 := Lib.hid rb
        have HBs1 := Lib.hid hb
        clear ra rc rb hb
        have z1 := heap_cell HXs1.out (j := 1) rfl
        have hnx : nD ≤ 20 := by have := HNX.out; omega
        by_cases hq1 : q < nD
        · rcases HCs1.out with h0 | ⟨g, cur, ty, h9, g1, g2, g3, g4⟩
          · exact absurd hq1 (by omega)
          · subst h9
            have n1 : (q : Int) < nD := by omega
            obtain ⟨cv, hcv⟩ := cell_ex g3 (show q * 3 + 1 < cur.size by omega)
            have hfz := heap_frozen g3 (q * 3 + 1)
            have G1 := Lib.hid (And.intro g1 g2)
            clear g1 g2 g3 g4
            go_wp2_with fail
            go_roundw
            case rel => exact ⟨q + 1, by omega, by go_num, HAs1.out.set _ _ _, HCs1.out.set _ _ _, (Below.heap_setCell _ _ _ _ (by have := G1.out; have := HSZ.out; dsimp only; omega)).trans HXs1.out, HBs1.out.setCell G1.out.1 _⟩
            case measure => simp [intOf]; omega
        · obtain rfl : nD = q := by omega
          have n1 : ¬ (nD : Int) < nD := by omega
          have HT9 := Lib.hid (heap_lft HTV0.out HBs1.out)
          have HX9 := Lib.hid (heap_lft HXV0.out HBs1.out)
          have HO9 := Lib.hid (HOV0.out.below HBs1.out)
          have HR9 := Lib.hid (HRV0.out.below HBs1.out)
          have HLI9 := Lib.hid (HLIV0.out.below HBs1.out)
          have HL9 := Lib.hid (HLV0.out.below HBs1.out)
          have x0 := heap_cell HX9.out (j := 0) rfl
          have x1 := heap_cell HX9.out (j := 1) rfl
          have t0 := heap_cell HT9.out (j := 0) rfl
          have t1 := heap_cell HT9.out (j := 1) rfl
          clear z1
          go_wp2_with fail
          refine (same_true m a1 n c1 a cc F (by have := HS.out; omega) _ HO9.out.nums HR9.out).mono ?_
          rintro e1 V9 ⟨rfl, hb⟩
          have HB9 := Lib.hid (below_thn (below_thn HBV0.out HBs1.out) hb)
          have HLI10 := Lib.hid (HLI9.out.below hb)
          have HL10 := Lib.hid (HL9.out.below hb)
          clear hb x0 x1 t0 t1
          go_wp2_with fail
          refine (sameInts_any al sa sn cl sc S (by have := HS.out; omega) _ (by have h := HLI10.out.nums; rwa [Nat.mul_one] at h) HL10.out).mono ?_
          rintro e1 V10 ⟨rfl, hb⟩
          have HB10 := Lib.hid (below_thn HB9.out hb)
          clear hb
          go_wp2_with fail
          go_ret
          exact ⟨rfl, HB10.out⟩

end Go.Proofs.Ytijfdfplebbaaab
