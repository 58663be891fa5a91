/-
  CanTells: the law's walk.
-/
import Derived.Test.YtjemcmehgkhhlaaCSPlay
namespace Go.Proofs.Ytjemcmehgkhhlaa
open Go.RowKit

namespace Pure
theorem PourIs.same {n : Nat} {A : Nat → Int} {m : Nat} {B : Nat → Int} {k f t : Int} {n1 : Nat} {A1 : Nat → Int} {m1 : Nat} {B1 : Nat → Int} {k1 er : Int} {n2 : Nat} {A2 : Nat → Int} {m2 : Nat} {B2 : Nat → Int} {k2 er2 : Int}
    (h : PourIs n A m B k f t n1 A1 m1 B1 k1 er) (g : PourIs n A m B k f t n2 A2 m2 B2 k2 er2) : n1 = n2 ∧ m1 = m2 ∧ k1 = k2 ∧ er = er2 ∧ n1 ≤ n ∧ m1 ≤ n ∧ (∀ q, q < n1 → A1 q = A2 q) ∧ (∀ q, q < m1 → B1 q = B2 q) := by
  unfold PourIs at h g
  grind
theorem PlayIs.same {n : Nat} {A : Nat → Int} {m : Nat} {B : Nat → Int} {k : Int} {len : Nat} {X : Nat → Int} {n1 : Nat} {A1 : Nat → Int} {m1 : Nat} {B1 : Nat → Int} {k1 bk pl er : Int} {n2 : Nat} {A2 : Nat → Int} {m2 : Nat} {B2 : Nat → Int} {k2 bk2 pl2 er2 : Int}
    (h : PlayIs n A m B k len X n1 A1 m1 B1 k1 bk pl er) (g : PlayIs n A m B k len X n2 A2 m2 B2 k2 bk2 pl2 er2) : n1 = n2 ∧ m1 = m2 ∧ k1 = k2 ∧ er = er2 ∧ n1 ≤ n ∧ m1 ≤ n ∧ (∀ q, q < n1 → A1 q = A2 q) ∧ (∀ q, q < m1 → B1 q = B2 q) ∧ bk = bk2 ∧ pl = pl2 := by
  rcases h with ⟨h1, h2, h3, h4, h5, h6, h7⟩ | ⟨h1, ⟨j, hj, hall, hno, hpl, her⟩, h2, h3, h4, h5⟩ | ⟨h1, hall, h2, h3, h4, h5, h6, h7, h8, h9⟩ <;>
    rcases g with ⟨g1, g2, g3, g4, g5, g6, g7⟩ | ⟨g1, ⟨i, hi, gall, gno, gpl, ger⟩, g2, g3, g4, g5⟩ | ⟨g1, gall, g2, g3, g4, g5, g6, g7, g8, g9⟩
  · subst h2; subst h3; subst g2; subst g3
    exact ⟨rfl, rfl, h4.trans g4.symm, h7.trans g7.symm, Nat.zero_le _, Nat.zero_le _, fun q hq => absurd hq (by omega), fun q hq => absurd hq (by omega), h5.trans g5.symm, h6.trans g6.symm⟩
  · rw [h1] at g1; cases g1
  · rw [h1] at g1; cases g1
  · rw [h1] at g1; cases g1
  · have hij : i = j := by
      rcases Nat.lt_trichotomy i j with h | h | h
      · exact absurd (hall i h) gno
      · exact h
      · exact absurd (gall j h) hno
    subst hij
    subst h2; subst h3; subst g2; subst g3
    exact ⟨rfl, rfl, h4.trans g4.symm, her.trans ger.symm, Nat.zero_le _, Nat.zero_le _, fun q hq => absurd hq (by omega), fun q hq => absurd hq (by omega), h5.trans g5.symm, hpl.trans gpl.symm⟩
  · exact absurd (gall j hj) hno
  · rw [h1] at g1; cases g1
  · exact absurd (hall i hi) gno
  · subst h2; subst h3; subst g2; subst g3
    exact ⟨rfl, rfl, h6.trans g6.symm, h9.trans g9.symm, Nat.le_refl _, Nat.le_refl _, fun q hq => (h4 q hq).trans (g4 q hq).symm, fun q hq => (h5 q hq).trans (g5 q hq).symm, h7.trans g7.symm, h8.trans g8.symm⟩
end Pure

set_option maxHeartbeats 400000000 in
set_option maxRecDepth 100000 in
theorem tells_walk (a : Option Addr) (n c : Nat) (b : Option Addr) (m d : Nat) (k : Int) (A B : Nat → Int) (f t : Int) (la : Option Addr) (len cap : Nat) (X : Nat → Int) (hna : a = none → n = 0) (hnb : b = none → m = 0) (hnl : la = none → len = 0) (w : World) (hA : NumsAt w a n A) (hB : NumsAt w b m B) (hL : NumsAt w la (len * 2) X) :
    Calls Try.prog 3 #[cansV a n c b m d k, pourV f t, .slice la len cap] w fun x w' => x = .returned (.bool true) ∧ Below w.heap.size w w' := by
  obtain ⟨W, hW⟩ : ∃ W, (w.alloc (cansB a n c b m d k)).alloc (pourB f t) = W := ⟨_, rfl⟩
  have HB : Hid (Below w.heap.size w W) := Lib.hid (by rw [← hW]; exact (below_new _ _).alloc (by simp) _)
  have HX : Hid (W.heap[w.heap.size]? = some (cansB a n c b m d k)) := Lib.hid (by rw [← hW]; exact heap_up (heap_top _ _ rfl) _)
  have HI : Hid (W.heap[w.heap.size + 1]? = some (pourB f t)) := Lib.hid (by rw [← hW]; exact heap_top _ _ (by simp))
  have HF := Lib.hid (hA.below HB.out)
  have HG := Lib.hid (hB.below HB.out)
  have HL := Lib.hid (hL.below HB.out)
  have HNN := Lib.hid (And.intro hna (And.intro hnb hnl))
  clear hA hB hL hna hnb hnl
  have p0 := heap_cell HX.out (v := .slice a n c) (j := 0) rfl
  have p1 := heap_cell HX.out (v := .slice b m d) (j := 1) rfl
  have p2 := heap_cell HX.out (v := .int .i64 k) (j := 2) rfl
  go_enter Try.func3, Try.ntmps3
  go_upto_region 1 with fail
  try rw [hW]
  clear hW
  go_wp2_with fail
  refine (great_any a n c b m d k _).mono ?_
  rintro e1 W1 ⟨rfl, hb⟩
  have HXW1 := Lib.hid (heap_lft HX.out hb)
  have HIW1 := Lib.hid (heap_lft HI.out hb)
  have HBW1 := Lib.hid (below_thn HB.out hb)
  have HFW1 := Lib.hid (HF.out.below hb)
  have HGW1 := Lib.hid (HG.out.below hb)
  have HLW1 := Lib.hid (HL.out.below hb)
  clear hb p0 p1 p2
  obtain ⟨gr, hgr⟩ : ∃ r, (decide (10 < (n : Int)) || decide (10 < (m : Int))) = r := ⟨_, rfl⟩
  rw [hgr]
  have HGR := Lib.hid hgr
  clear hgr
  cases gr
  rotate_left
  · go_wp2_with fail
    go_ret
    exact ⟨rfl, HBW1.out⟩
  by_cases hl50 : (100 : Int) < len
  · go_wp2_with fail
    go_ret
    exact ⟨rfl, HBW1.out⟩
  have HN : Hid (n ≤ 10 ∧ m ≤ 10 ∧ len ≤ 100) := Lib.hid (by have h := HGR.out; simp only [Bool.or_eq_false_iff, decide_eq_false_iff_not] at h; omega)
  have hl51 : (len : Int) ≤ 100 := by omega
  have p0 := heap_cell HXW1.out (v := .slice a n c) (j := 0) rfl
  have p1 := heap_cell HXW1.out (v := .slice b m d) (j := 1) rfl
  have p2 := heap_cell HXW1.out (v := .int .i64 k) (j := 2) rfl
  go_wp2_with fail
  refine (twin_any a n c b m d k A B (by have := HN.out; omega) (by have := HN.out; omega) HNN.out.1 HNN.out.2.1 _ (by rw [Nat.mul_one]; exact HFW1.out) (by rw [Nat.mul_one]; exact HGW1.out)).mono ?_
  rintro e1 W2 ⟨a1, c1, a2, c2, rfl, ho1, ho2, hap0, hb⟩
  clear p0 p1 p2 hl50 hap0
  have HXW2 := Lib.hid (heap_lft HXW1.out hb)
  have HIW2 := Lib.hid (heap_lft HIW1.out hb)
  have HBW2 := Lib.hid (below_thn HBW1.out hb)
  have HFW2 := Lib.hid (HFW1.out.below hb)
  have HGW2 := Lib.hid (HGW1.out.below hb)
  have HLW2 := Lib.hid (HLW1.out.below hb)
  have HAW2 := Lib.hid ho1
  have HCW2 := Lib.hid ho2
  clear hb ho1 ho2
  obtain ⟨Y, hY⟩ : ∃ Y, W2.alloc (.cells #[] 26) = Y := ⟨_, rfl⟩
  have hby : Below W2.heap.size W2 Y := by rw [← hY]; exact below_new _ _
  have hoe : OwnNums Y W2.heap.size 26 2 (some ⟨W2.heap.size, 0, none⟩) 0 0 X := by rw [← hY]; exact own_empty _ _ _ rfl (Nat.le_refl _) _
  obtain ⟨i0, hi0, hz0, hz1, hz2⟩ := infoPour
  obtain ⟨al, cl, Z, hr, hol, _, hbe, _⟩ := app_own Y W2.heap.size 26 27 27 2 16 i0 _ Try.underlying27 hi0 hz0 hz1 hz2 rfl (by decide) (by decide) hoe la len cap X (HLW2.out.below hby) HNN.out.2.2 (by omega) (by have := HN.out; omega) hby.size
  rw [Nat.zero_add] at hr hol
  have HLIZ : Hid (OwnNums Z W2.heap.size 26 2 al len cl X) := Lib.hid (hol.congr (fun q hq => by simp [joinF]))
  have hbz : Below W2.heap.size W2 Z := hby.trans hbe
  rw [← hY] at hr
  have HAR := Lib.hid hr
  have HXZ := Lib.hid (heap_lft HXW2.out hbz)
  have HIZ := Lib.hid (heap_lft HIW2.out hbz)
  have HBZ := Lib.hid (below_thn HBW2.out hbz)
  have HFZ := Lib.hid (HFW2.out.below hbz)
  have HGZ := Lib.hid (HGW2.out.below hbz)
  have HLZ := Lib.hid (HLW2.out.below hbz)
  have HAZ := Lib.hid (HAW2.out.below hbz)
  have HCZ := Lib.hid (HCW2.out.below hbz)
  clear hY hby hoe hi0 hz0 hz1 hz2 hr hol hbe hbz
  go_upto_region 4 with (first | (at_builtin; refine Lib.wpList_append_run _ rfl _ _ _ _ rfl _ _ rfl rfl _ _ HAR.out ?_) | go_in)
  obtain ⟨V0, hV0⟩ : ∃ x, Z.alloc (cansB a1 n c1 a2 m c2 k) = x := ⟨_, rfl⟩
  have hb : Below Z.heap.size Z V0 := by rw [← hV0]; exact below_new _ _
  have HTV0 : Hid (V0.heap[Z.heap.size]? = some (cansB a1 n c1 a2 m c2 k)) := Lib.hid (by rw [← hV0]; exact heap_top _ _ rfl)
  have HXV0 := Lib.hid (heap_lft HXZ.out hb)
  have HIV0 := Lib.hid (heap_lft HIZ.out hb)
  have HFV0 := Lib.hid (HFZ.out.below hb)
  have HGV0 := Lib.hid (HGZ.out.below hb)
  have HLV0 := Lib.hid (HLZ.out.below hb)
  have HAV0 := Lib.hid (HAZ.out.below hb)
  have HCV0 := Lib.hid (HCZ.out.below hb)
  have HLIV0 := Lib.hid (HLIZ.out.below hb)
  have HBV0 := Lib.hid (below_thn HBZ.out hb)
  try rw [hV0]
  clear hV0 hb
  have p0 := heap_cell HTV0.out (v := .slice a1 n c1) (j := 0) rfl
  have p1 := heap_cell HTV0.out (v := .slice a2 m c2) (j := 1) rfl
  have p2 := heap_cell HTV0.out (v := .int .i64 k) (j := 2) rfl
  have i0 := heap_cell HIV0.out (v := .int .i64 f) (j := 0) rfl
  have i1 := heap_cell HIV0.out (v := .int .i64 t) (j := 1) rfl
  go_wp2_with fail
  refine (pourTop_any a1 n c1 a2 m c2 k f t A B (by have := HN.out; omega) (by have := HN.out; omega) (fun e => HAV0.out.nil e) _ (by have h := HAV0.out.nums; rwa [Nat.mul_one] at h) (by have h := HCV0.out.nums; rwa [Nat.mul_one] at h)).mono ?_
  rintro e1 PA ⟨aA, nA, cA, bA, mA, dA, kA, qA, AA, BA, rfl, ho1, ho2, hap, his, hb⟩
  have HO1APA := Lib.hid ho1
  have HO2APA := Lib.hid ho2
  have HAPA := Lib.hid hap
  have HISA := Lib.hid his
  clear ho1 ho2 hap his p0 p1 p2 i0 i1
  have HB0PA := Lib.hid hb
  have HSZA : Hid (V0.heap.size ≤ PA.heap.size) := Lib.hid hb.size
  have HXPA := Lib.hid (heap_lft HXV0.out hb)
  have HIPA := Lib.hid (heap_lft HIV0.out hb)
  have HTPA := Lib.hid (heap_lft HTV0.out hb)
  have HFPA := Lib.hid (HFV0.out.below hb)
  have HGPA := Lib.hid (HGV0.out.below hb)
  have HLPA := Lib.hid (HLV0.out.below hb)
  have HAPA := Lib.hid (HAV0.out.below hb)
  have HCPA := Lib.hid (HCV0.out.below hb)
  have HLIPA := Lib.hid (HLIV0.out.below hb)
  have HBPA := Lib.hid (below_thn HBV0.out hb)
  clear hb
  go_upto_region 5 with fail
  obtain ⟨V1, hV1⟩ : ∃ x, PA.alloc (cansB aA nA cA bA mA dA kA) = x := ⟨_, rfl⟩
  have hb : Below PA.heap.size PA V1 := by rw [← hV1]; exact below_new _ _
  have HRAV1 : Hid (V1.heap[PA.heap.size]? = some (cansB aA nA cA bA mA dA kA)) := Lib.hid (by rw [← hV1]; exact heap_top _ _ rfl)
  have HXV1 := Lib.hid (heap_lft HXPA.out hb)
  have HIV1 := Lib.hid (heap_lft HIPA.out hb)
  have HTV1 := Lib.hid (heap_lft HTPA.out hb)
  have HFV1 := Lib.hid (HFPA.out.below hb)
  have HGV1 := Lib.hid (HGPA.out.below hb)
  have HLV1 := Lib.hid (HLPA.out.below hb)
  have HAV1 := Lib.hid (HAPA.out.below hb)
  have HCV1 := Lib.hid (HCPA.out.below hb)
  have HLIV1 := Lib.hid (HLIPA.out.below hb)
  have HBV1 := Lib.hid (below_thn HBPA.out hb)
  try rw [hV1]
  have HBL := Lib.hid hb
  clear hV1 hb
  have HQAV1 := HBL
  clear HBL
  have p0 := heap_cell HXV1.out (v := .slice a n c) (j := 0) rfl
  have p1 := heap_cell HXV1.out (v := .slice b m d) (j := 1) rfl
  have p2 := heap_cell HXV1.out (v := .int .i64 k) (j := 2) rfl
  have i0 := heap_cell HIV1.out (v := .int .i64 f) (j := 0) rfl
  have i1 := heap_cell HIV1.out (v := .int .i64 t) (j := 1) rfl
  go_wp2_with fail
  refine (rPour_any a n c b m d k f t A B (by have := HN.out; omega) HNN.out.1 HNN.out.2.1 _ HFV1.out HGV1.out).mono ?_
  rintro e1 PB ⟨aB, nB, cB, bB, mB, dB, kB, qB, AB, BB, rfl, ho1, ho2, hap, his, hb⟩
  have HO1BPB := Lib.hid ho1
  have HO2BPB := Lib.hid ho2
  have HAPB := Lib.hid hap
  have HISB := Lib.hid his
  clear ho1 ho2 hap his p0 p1 p2 i0 i1
  have HSZB : Hid (V1.heap.size ≤ PB.heap.size) := Lib.hid hb.size
  have HXPB := Lib.hid (heap_lft HXV1.out hb)
  have HIPB := Lib.hid (heap_lft HIV1.out hb)
  have HTPB := Lib.hid (heap_lft HTV1.out hb)
  have HRAPB := Lib.hid (heap_lft HRAV1.out hb)
  have HFPB := Lib.hid (HFV1.out.below hb)
  have HGPB := Lib.hid (HGV1.out.below hb)
  have HLPB := Lib.hid (HLV1.out.below hb)
  have HAPB := Lib.hid (HAV1.out.below hb)
  have HCPB := Lib.hid (HCV1.out.below hb)
  have HLIPB := Lib.hid (HLIV1.out.below hb)
  have HBPB := Lib.hid (below_thn HBV1.out hb)
  have HQAPB := Lib.hid (HQAV1.out.trans (hb.mono (HQAV1.out.size)))
  clear hb
  go_upto_region 6 with fail
  obtain ⟨V2, hV2⟩ : ∃ x, PB.alloc (cansB aB nB cB bB mB dB kB) = x := ⟨_, rfl⟩
  have hb : Below PB.heap.size PB V2 := by rw [← hV2]; exact below_new _ _
  have HRBV2 : Hid (V2.heap[PB.heap.size]? = some (cansB aB nB cB bB mB dB kB)) := Lib.hid (by rw [← hV2]; exact heap_top _ _ rfl)
  have HXV2 := Lib.hid (heap_lft HXPB.out hb)
  have HIV2 := Lib.hid (heap_lft HIPB.out hb)
  have HTV2 := Lib.hid (heap_lft HTPB.out hb)
  have HRAV2 := Lib.hid (heap_lft HRAPB.out hb)
  have HFV2 := Lib.hid (HFPB.out.below hb)
  have HGV2 := Lib.hid (HGPB.out.below hb)
  have HLV2 := Lib.hid (HLPB.out.below hb)
  have HAV2 := Lib.hid (HAPB.out.below hb)
  have HCV2 := Lib.hid (HCPB.out.below hb)
  have HLIV2 := Lib.hid (HLIPB.out.below hb)
  have HBV2 := Lib.hid (below_thn HBPB.out hb)
  try rw [hV2]
  have HBL := Lib.hid hb
  clear hV2 hb
  have HQBV2 := HBL
  clear HBL
  have HQAV2 := Lib.hid (HQAPB.out.trans (HQBV2.out.mono HQAPB.out.size))
  have p0 := heap_cell HTV2.out (v := .slice a1 n c1) (j := 0) rfl
  have p1 := heap_cell HTV2.out (v := .slice a2 m c2) (j := 1) rfl
  have p2 := heap_cell HTV2.out (v := .int .i64 k) (j := 2) rfl
  go_wp2_with fail
  refine (playAll_any a1 n c1 a2 m c2 k al len cl A B X (by have := HN.out; omega) (by have := HN.out; omega) (by have := HN.out; omega) (fun e => HAV2.out.nil e) _ (by have h := HAV2.out.nums; rwa [Nat.mul_one] at h) (by have h := HCV2.out.nums; rwa [Nat.mul_one] at h) HLIV2.out.nums).mono ?_
  rintro e1 PC ⟨aC, nC, cC, bC, mC, dC, kC, yC, zC, qC, AC, BC, rfl, ho1, ho2, hap, his, hb⟩
  have HO1CPC := Lib.hid ho1
  have HO2CPC := Lib.hid ho2
  have HAPC := Lib.hid hap
  have HISC := Lib.hid his
  clear ho1 ho2 hap his p0 p1 p2
  have HSZC : Hid (V2.heap.size ≤ PC.heap.size) := Lib.hid hb.size
  have HXPC := Lib.hid (heap_lft HXV2.out hb)
  have HIPC := Lib.hid (heap_lft HIV2.out hb)
  have HTPC := Lib.hid (heap_lft HTV2.out hb)
  have HRAPC := Lib.hid (heap_lft HRAV2.out hb)
  have HRBPC := Lib.hid (heap_lft HRBV2.out hb)
  have HFPC := Lib.hid (HFV2.out.below hb)
  have HGPC := Lib.hid (HGV2.out.below hb)
  have HLPC := Lib.hid (HLV2.out.below hb)
  have HAPC := Lib.hid (HAV2.out.below hb)
  have HCPC := Lib.hid (HCV2.out.below hb)
  have HLIPC := Lib.hid (HLIV2.out.below hb)
  have HBPC := Lib.hid (below_thn HBV2.out hb)
  have HQAPC := Lib.hid (HQAV2.out.trans (hb.mono (HQAV2.out.size)))
  have HQBPC := Lib.hid (HQBV2.out.trans (hb.mono (HQBV2.out.size)))
  clear hb
  go_upto_region 7 with fail
  obtain ⟨V3, hV3⟩ : ∃ x, PC.alloc (cansB aC nC cC bC mC dC kC) = x := ⟨_, rfl⟩
  have hb : Below PC.heap.size PC V3 := by rw [← hV3]; exact below_new _ _
  have HRCV3 : Hid (V3.heap[PC.heap.size]? = some (cansB aC nC cC bC mC dC kC)) := Lib.hid (by rw [← hV3]; exact heap_top _ _ rfl)
  have HXV3 := Lib.hid (heap_lft HXPC.out hb)
  have HIV3 := Lib.hid (heap_lft HIPC.out hb)
  have HTV3 := Lib.hid (heap_lft HTPC.out hb)
  have HRAV3 := Lib.hid (heap_lft HRAPC.out hb)
  have HRBV3 := Lib.hid (heap_lft HRBPC.out hb)
  have HFV3 := Lib.hid (HFPC.out.below hb)
  have HGV3 := Lib.hid (HGPC.out.below hb)
  have HLV3 := Lib.hid (HLPC.out.below hb)
  have HAV3 := Lib.hid (HAPC.out.below hb)
  have HCV3 := Lib.hid (HCPC.out.below hb)
  have HLIV3 := Lib.hid (HLIPC.out.below hb)
  have HBV3 := Lib.hid (below_thn HBPC.out hb)
  try rw [hV3]
  have HBL := Lib.hid hb
  clear hV3 hb
  have HQCV3 := HBL
  clear HBL
  have HQAV3 := Lib.hid (HQAPC.out.trans (HQCV3.out.mono HQAPC.out.size))
  have HQBV3 := Lib.hid (HQBPC.out.trans (HQCV3.out.mono HQBPC.out.size))
  have p0 := heap_cell HXV3.out (v := .slice a n c) (j := 0) rfl
  have p1 := heap_cell HXV3.out (v := .slice b m d) (j := 1) rfl
  have p2 := heap_cell HXV3.out (v := .int .i64 k) (j := 2) rfl
  go_wp2_with fail
  refine (rPlay_any a n c b m d k la len cap A B X (by have := HN.out; omega) (by have := HN.out; omega) HNN.out.1 HNN.out.2.1 _ HFV3.out HGV3.out HLV3.out).mono ?_
  rintro e1 PD ⟨aD, nD, cD, bD, mD, dD, kD, yD, zD, qD, AD, BD, rfl, ho1, ho2, hap, his, hb⟩
  have HO1DPD := Lib.hid ho1
  have HO2DPD := Lib.hid ho2
  have HAPD := Lib.hid hap
  have HISD := Lib.hid his
  clear ho1 ho2 hap his p0 p1 p2
  have HSZD : Hid (V3.heap.size ≤ PD.heap.size) := Lib.hid hb.size
  have HXPD := Lib.hid (heap_lft HXV3.out hb)
  have HIPD := Lib.hid (heap_lft HIV3.out hb)
  have HTPD := Lib.hid (heap_lft HTV3.out hb)
  have HRAPD := Lib.hid (heap_lft HRAV3.out hb)
  have HRBPD := Lib.hid (heap_lft HRBV3.out hb)
  have HRCPD := Lib.hid (heap_lft HRCV3.out hb)
  have HFPD := Lib.hid (HFV3.out.below hb)
  have HGPD := Lib.hid (HGV3.out.below hb)
  have HLPD := Lib.hid (HLV3.out.below hb)
  have HAPD := Lib.hid (HAV3.out.below hb)
  have HCPD := Lib.hid (HCV3.out.below hb)
  have HLIPD := Lib.hid (HLIV3.out.below hb)
  have HBPD := Lib.hid (below_thn HBV3.out hb)
  have HQAPD := Lib.hid (HQAV3.out.trans (hb.mono (HQAV3.out.size)))
  have HQBPD := Lib.hid (HQBV3.out.trans (hb.mono (HQBV3.out.size)))
  have HQCPD := Lib.hid (HQCV3.out.trans (hb.mono (HQCV3.out.size)))
  clear hb
  go_upto_region 8 with fail
  obtain ⟨V4, hV4⟩ : ∃ x, PD.alloc (cansB aD nD cD bD mD dD kD) = x := ⟨_, rfl⟩
  have hb : Below PD.heap.size PD V4 := by rw [← hV4]; exact below_new _ _
  have HRDV4 : Hid (V4.heap[PD.heap.size]? = some (cansB aD nD cD bD mD dD kD)) := Lib.hid (by rw [← hV4]; exact heap_top _ _ rfl)
  have HXV4 := Lib.hid (heap_lft HXPD.out hb)
  have HIV4 := Lib.hid (heap_lft HIPD.out hb)
  have HTV4 := Lib.hid (heap_lft HTPD.out hb)
  have HRAV4 := Lib.hid (heap_lft HRAPD.out hb)
  have HRBV4 := Lib.hid (heap_lft HRBPD.out hb)
  have HRCV4 := Lib.hid (heap_lft HRCPD.out hb)
  have HFV4 := Lib.hid (HFPD.out.below hb)
  have HGV4 := Lib.hid (HGPD.out.below hb)
  have HLV4 := Lib.hid (HLPD.out.below hb)
  have HAV4 := Lib.hid (HAPD.out.below hb)
  have HCV4 := Lib.hid (HCPD.out.below hb)
  have HLIV4 := Lib.hid (HLIPD.out.below hb)
  have HBV4 := Lib.hid (below_thn HBPD.out hb)
  try rw [hV4]
  have HBL := Lib.hid hb
  clear hV4 hb
  have HQDV4 := HBL
  clear HBL
  have HQAV4 := Lib.hid (HQAPD.out.trans (HQDV4.out.mono HQAPD.out.size))
  have HQBV4 := Lib.hid (HQBPD.out.trans (HQDV4.out.mono HQBPD.out.size))
  have HQCV4 := Lib.hid (HQCPD.out.trans (HQDV4.out.mono HQCPD.out.size))
  obtain ⟨rfl, rfl, rfl, rfl, hnA, hmA, hAA, hBA⟩ := HISA.out.same HISB.out
  have HNXA : Hid (nA ≤ 10 ∧ mA ≤ 10) := Lib.hid (by have := HN.out; omega)
  have HWAa := Lib.hid (HO1APA.out.below HQAV4.out)
  have HWAb := Lib.hid (HO2APA.out.below HQAV4.out)
  have HWBa := Lib.hid ((HO1BPB.out.below HQBV4.out).congr (fun q hq => (hAA q (by omega)).symm))
  have HWBb := Lib.hid ((HO2BPB.out.below HQBV4.out).congr (fun q hq => (hBA q (by omega)).symm))
  clear hnA hmA hAA hBA
  obtain ⟨rfl, rfl, rfl, rfl, hnC, hmC, hAC, hBC, rfl, rfl⟩ := HISC.out.same HISD.out
  have HNXC : Hid (nC ≤ 10 ∧ mC ≤ 10) := Lib.hid (by have := HN.out; omega)
  have HWCa := Lib.hid (HO1CPC.out.below HQCV4.out)
  have HWCb := Lib.hid (HO2CPC.out.below HQCV4.out)
  have HWDa := Lib.hid ((HO1DPD.out.below HQDV4.out).congr (fun q hq => (hAC q (by omega)).symm))
  have HWDb := Lib.hid ((HO2DPD.out.below HQDV4.out).congr (fun q hq => (hBC q (by omega)).symm))
  clear hnC hmC hAC hBC
  have pA0 := heap_cell HRAV4.out (v := .slice aA nA cA) (j := 0) rfl
  have pA1 := heap_cell HRAV4.out (v := .slice bA mA dA) (j := 1) rfl
  have pA2 := heap_cell HRAV4.out (v := .int .i64 kA) (j := 2) rfl
  have pB0 := heap_cell HRBV4.out (v := .slice aB nA cB) (j := 0) rfl
  have pB1 := heap_cell HRBV4.out (v := .slice bB mA dB) (j := 1) rfl
  have pB2 := heap_cell HRBV4.out (v := .int .i64 kA) (j := 2) rfl
  have pC0 := heap_cell HRCV4.out (v := .slice aC nC cC) (j := 0) rfl
  have pC1 := heap_cell HRCV4.out (v := .slice bC mC dC) (j := 1) rfl
  have pC2 := heap_cell HRCV4.out (v := .int .i64 kC) (j := 2) rfl
  have pD0 := heap_cell HRDV4.out (v := .slice aD nC cD) (j := 0) rfl
  have pD1 := heap_cell HRDV4.out (v := .slice bD mC dD) (j := 1) rfl
  have pD2 := heap_cell HRDV4.out (v := .int .i64 kC) (j := 2) rfl
  go_wp2_with fail
  refine (same_true aA nA cA bA mA dA kA aB cB bB dB AA BA (by have := HNXA.out; omega) (by have := HNXA.out; omega) _ (by have h := HWAa.out.nums; rwa [Nat.mul_one] at h) (by have h := HWAb.out.nums; rwa [Nat.mul_one] at h) (by have h := HWBa.out.nums; rwa [Nat.mul_one] at h) (by have h := HWBb.out.nums; rwa [Nat.mul_one] at h)).mono ?_
  rintro e1 S0 ⟨rfl, hb⟩
  have HL6S0 := Lib.hid hb
  clear hb pA0 pB0 pA1 pB1 pA2 pB2 pC0 pD0 pC1 pD1 pC2 pD2
  have HRAS0 := Lib.hid (heap_lft HRAV4.out HL6S0.out)
  have HRBS0 := Lib.hid (heap_lft HRBV4.out HL6S0.out)
  have HRCS0 := Lib.hid (heap_lft HRCV4.out HL6S0.out)
  have HRDS0 := Lib.hid (heap_lft HRDV4.out HL6S0.out)
  have pC0 := heap_cell HRCS0.out (v := .slice aC nC cC) (j := 0) rfl
  have pC1 := heap_cell HRCS0.out (v := .slice bC mC dC) (j := 1) rfl
  have pC2 := heap_cell HRCS0.out (v := .int .i64 kC) (j := 2) rfl
  have pD0 := heap_cell HRDS0.out (v := .slice aD nC cD) (j := 0) rfl
  have pD1 := heap_cell HRDS0.out (v := .slice bD mC dD) (j := 1) rfl
  have pD2 := heap_cell HRDS0.out (v := .int .i64 kC) (j := 2) rfl
  go_wp2_with fail
  refine (same_true aC nC cC bC mC dC kC aD cD bD dD AC BC (by have := HNXC.out; omega) (by have := HNXC.out; omega) _ (by have h := (HWCa.out.below HL6S0.out).nums; rwa [Nat.mul_one] at h) (by have h := (HWCb.out.below HL6S0.out).nums; rwa [Nat.mul_one] at h) (by have h := (HWDa.out.below HL6S0.out).nums; rwa [Nat.mul_one] at h) (by have h := (HWDb.out.below HL6S0.out).nums; rwa [Nat.mul_one] at h)).mono ?_
  rintro e1 S1 ⟨rfl, hb⟩
  have HL6S1 := Lib.hid (below_thn HL6S0.out hb)
  clear hb pC0 pD0 pC1 pD1 pC2 pD2
  have HRAS1 := Lib.hid (heap_lft HRAV4.out HL6S1.out)
  have HRBS1 := Lib.hid (heap_lft HRBV4.out HL6S1.out)
  have HRCS1 := Lib.hid (heap_lft HRCV4.out HL6S1.out)
  have HRDS1 := Lib.hid (heap_lft HRDV4.out HL6S1.out)
  have pA0 := heap_cell HRAS1.out (v := .slice aA nA cA) (j := 0) rfl
  have pA1 := heap_cell HRAS1.out (v := .slice bA mA dA) (j := 1) rfl
  have pA2 := heap_cell HRAS1.out (v := .int .i64 kA) (j := 2) rfl
  have pC0 := heap_cell HRCS1.out (v := .slice aC nC cC) (j := 0) rfl
  have pC1 := heap_cell HRCS1.out (v := .slice bC mC dC) (j := 1) rfl
  have pC2 := heap_cell HRCS1.out (v := .int .i64 kC) (j := 2) rfl
  go_upto_region 10 with fail
  obtain ⟨V7, hV7⟩ : ∃ x, S1.alloc (.cells #[.slice aA nA cA, .slice bA mA dA, .int .i64 kA, .slice aC nC cC, .slice bC mC dC, .int .i64 kC] 24) = x := ⟨_, rfl⟩
  have hb : Below S1.heap.size S1 V7 := by rw [← hV7]; exact below_new _ _
  have HLL : Hid (V7.heap[S1.heap.size]? = some (.cells #[.slice aA nA cA, .slice bA mA dA, .int .i64 kA, .slice aC nC cC, .slice bC mC dC, .int .i64 kC] 24)) := Lib.hid (by rw [← hV7]; exact heap_top _ _ rfl)
  have hszA0 : V0.heap.size ≤ PA.heap.size := HSZA.out
  have hsz6 : V4.heap.size ≤ S1.heap.size := HL6S1.out.size
  have hszA : PA.heap.size ≤ V4.heap.size := HQAV4.out.size
  have hszB : PB.heap.size ≤ V4.heap.size := HQBV4.out.size
  have hszC : PC.heap.size ≤ V4.heap.size := HQCV4.out.size
  have hszD : PD.heap.size ≤ V4.heap.size := HQDV4.out.size
  have hq2 : PA.heap.size ≤ V2.heap.size := HQAV2.out.size
  have hqC : V2.heap.size ≤ PC.heap.size := HSZC.out
  have HR1A : Hid (RowOk V7 V0.heap.size S1.heap.size 1 aA nA) := Lib.hid (((OwnNums.base (HWAa.out.below HL6S1.out) (by omega)).row).below hb)
  have HR2A : Hid (RowOk V7 V0.heap.size S1.heap.size 1 bA mA) := Lib.hid (((OwnNums.base (HWAb.out.below HL6S1.out) (by omega)).row).below hb)
  have HR1C : Hid (RowOk V7 V0.heap.size S1.heap.size 1 aC nC) := Lib.hid (((OwnNums.base (HWCa.out.below HL6S1.out) (by omega)).row).below hb)
  have HR2C : Hid (RowOk V7 V0.heap.size S1.heap.size 1 bC mC) := Lib.hid (((OwnNums.base (HWCb.out.below HL6S1.out) (by omega)).row).below hb)
  have HB07 : Hid (Below V0.heap.size V0 V7) := Lib.hid ((HB0PA.out.trans (HQAV4.out.mono hszA0)).trans ((HL6S1.out.mono (by omega)).trans (hb.mono (by omega))))
  have HSZ0 : Hid (V0.heap.size ≤ S1.heap.size) := Lib.hid (by omega)
  try rw [hV7]
  clear hV7 hb hszA0 hsz6 hq2 hqC hszA hszB hszC hszD pA0 pA1 pA2 pC0 pC1 pC2
  go_loopw [23, 24, 25, 98] (fun _ _ _ i wr => ∃ kk : Nat, kk ≤ 2 ∧ i = .int .i64 kk ∧ wr.heap[S1.heap.size]? = some (.cells #[.slice aA nA cA, .slice bA mA dA, .int .i64 kA, .slice aC nC cC, .slice bC mC dC, .int .i64 kC] 24) ∧ RowOk wr V0.heap.size S1.heap.size 1 aA nA ∧ RowOk wr V0.heap.size S1.heap.size 1 bA mA ∧ RowOk wr V0.heap.size S1.heap.size 1 aC nC ∧ RowOk wr V0.heap.size S1.heap.size 1 bC mC ∧ Below V0.heap.size V0 wr) (fun _ _ _ i _ => 2 - (intOf i).toNat)
  case atStart => exact ⟨0, by omega, rfl, HLL.out, HR1A.out, HR2A.out, HR1C.out, HR2C.out, HB07.out⟩
  case round =>
    obtain ⟨kk, hk, rfl, hl, rA1, rA2, rC1, rC2, hb⟩ := hrel
    have HLk := Lib.hid hl
    have HrA1k := Lib.hid rA1
    have HrA2k := Lib.hid rA2
    have HrC1k := Lib.hid rC1
    have HrC2k := Lib.hid rC2
    have HBk := Lib.hid hb
    have HLT : Hid (S1.heap.size < wr.heap.size) := Lib.hid (Array.getElem?_eq_some_iff.1 hl).1
    clear hl rA1 rA2 rC1 rC2 hb
    have hk3 : kk = 0 ∨ kk = 1 ∨ kk = 2 := by omega
    rcases hk3 with rfl | rfl | rfl
    · have l0 := heap_cell HLk.out (v := .slice aA nA cA) (j := 0) rfl
      have l1 := heap_cell HLk.out (v := .slice bA mA dA) (j := 1) rfl
      have l2 := heap_cell HLk.out (v := .int .i64 kA) (j := 2) rfl
      go_upto_region 12 with fail
      obtain ⟨U, hU⟩ : ∃ x, wr.alloc (cansB aA nA cA bA mA dA kA) = x := ⟨_, rfl⟩
      have hb : Below wr.heap.size wr U := by rw [← hU]; exact below_new _ _
      have HZU : Hid (U.heap[wr.heap.size]? = some (cansB aA nA cA bA mA dA kA)) := Lib.hid (by rw [← hU]; exact heap_top _ _ rfl)
      have HLU := Lib.hid (heap_lft HLk.out hb)
      have HrA1U := Lib.hid (HrA1k.out.below hb)
      have HrA2U := Lib.hid (HrA2k.out.below hb)
      have HrC1U := Lib.hid (HrC1k.out.below hb)
      have HrC2U := Lib.hid (HrC2k.out.below hb)
      have HBU := Lib.hid (below_thn HBk.out hb)
      try rw [hU]
      clear hU hb l0 l1 l2
      obtain ⟨wo, rfl⟩ : ∃ x, x = wr := ⟨_, rfl⟩
      have HLTwo : Hid (S1.heap.size < wo.heap.size) := HLT
      have z1 := heap_cell HZU.out (v := .slice aA nA cA) (j := 0) rfl
      go_wp2_with fail
      clear z1
      go_loopw [24, 105] (fun _ i wr => ∃ q : Nat, q ≤ nA ∧ i = .int .i64 q ∧ wr.heap[wo.heap.size]? = some (cansB aA nA cA bA mA dA kA) ∧ wr.heap[S1.heap.size]? = some (.cells #[.slice aA nA cA, .slice bA mA dA, .int .i64 kA, .slice aC nC cC, .slice bC mC dC, .int .i64 kC] 24) ∧ RowOk wr V0.heap.size S1.heap.size 1 aA nA ∧ RowOk wr V0.heap.size S1.heap.size 1 bA mA ∧ RowOk wr V0.heap.size S1.heap.size 1 aC nC ∧ RowOk wr V0.heap.size S1.heap.size 1 bC mC ∧ Below V0.heap.size V0 wr) (fun _ i _ => nA - (intOf i).toNat)
      case atStart => exact ⟨0, Nat.zero_le _, rfl, HZU.out, HLU.out, HrA1U.out, HrA2U.out, HrC1U.out, HrC2U.out, HBU.out⟩
      case round =>
        obtain ⟨q, hq, rfl, hz, hl, rA1, rA2, rC1, rC2, hb⟩ := hrel
        have HZs1 := Lib.hid hz
        have HLs1 := Lib.hid hl
        have HrA1s1 := Lib.hid rA1
        have HrA2s1 := Lib.hid rA2
        have HrC1s1 := Lib.hid rC1
        have HrC2s1 := Lib.hid rC2
        have HBs1 := Lib.hid hb
        clear hz hl rA1 rA2 rC1 rC2 hb
        have z1 := heap_cell HZs1.out (v := .slice aA nA cA) (j := 0) rfl
        have hnx : nA ≤ 10 := by have := HNXA.out; omega
        by_cases hq1 : q < nA
        · rcases HrA1s1.out with h0 | ⟨g, cur, ty, h9, g1, g2, g3, g4⟩
          · exact absurd hq1 (by omega)
          · have HAX := Lib.hid h9
            rw [h9] at z1
            have n1 : (q : Int) < nA := by omega
            obtain ⟨cv, hcv⟩ := cell_ex g3 (show q < cur.size by omega)
            have hfz := heap_frozen g3 q
            have G1 := Lib.hid (And.intro g1 g2)
            clear g1 g2 g3 g4 h9
            go_wp2_with fail
            go_roundw
            case rel => exact ⟨q + 1, by omega, by go_num, (Below.heap_setCell _ _ _ _ (by have := G1.out; have := HLTwo.out; dsimp only; omega)).trans HZs1.out, (Below.heap_setCell _ _ _ _ (by have := G1.out; dsimp only; omega)).trans HLs1.out, HrA1s1.out.set _ _ _, HrA2s1.out.set _ _ _, HrC1s1.out.set _ _ _, HrC2s1.out.set _ _ _, HBs1.out.setCell G1.out.1 _⟩
            case measure => simp [intOf]; omega
        · obtain rfl : nA = q := by omega
          have n1 : ¬ (nA : Int) < nA := by omega
          clear z1
          have z1 := heap_cell HZs1.out (v := .slice bA mA dA) (j := 1) rfl
          go_wp2_with fail
          clear z1
          go_loopw [25, 116] (fun _ i wr => ∃ q : Nat, q ≤ mA ∧ i = .int .i64 q ∧ wr.heap[wo.heap.size]? = some (cansB aA nA cA bA mA dA kA) ∧ wr.heap[S1.heap.size]? = some (.cells #[.slice aA nA cA, .slice bA mA dA, .int .i64 kA, .slice aC nC cC, .slice bC mC dC, .int .i64 kC] 24) ∧ RowOk wr V0.heap.size S1.heap.size 1 aA nA ∧ RowOk wr V0.heap.size S1.heap.size 1 bA mA ∧ RowOk wr V0.heap.size S1.heap.size 1 aC nC ∧ RowOk wr V0.heap.size S1.heap.size 1 bC mC ∧ Below V0.heap.size V0 wr) (fun _ i _ => mA - (intOf i).toNat)
          case atStart => exact ⟨0, Nat.zero_le _, rfl, HZs1.out, HLs1.out, HrA1s1.out, HrA2s1.out, HrC1s1.out, HrC2s1.out, HBs1.out⟩
          case round =>
            obtain ⟨q, hq, rfl, hz, hl, rA1, rA2, rC1, rC2, hb⟩ := hrel
            have HZs2 := Lib.hid hz
            have HLs2 := Lib.hid hl
            have HrA1s2 := Lib.hid rA1
            have HrA2s2 := Lib.hid rA2
            have HrC1s2 := Lib.hid rC1
            have HrC2s2 := Lib.hid rC2
            have HBs2 := Lib.hid hb
            clear hz hl rA1 rA2 rC1 rC2 hb
            have z1 := heap_cell HZs2.out (v := .slice bA mA dA) (j := 1) rfl
            have hnx : mA ≤ 10 := by have := HNXA.out; omega
            by_cases hq1 : q < mA
            · rcases HrA2s2.out with h0 | ⟨g, cur, ty, h9, g1, g2, g3, g4⟩
              · exact absurd hq1 (by omega)
              · have HAX := Lib.hid h9
                rw [h9] at z1
                have n1 : (q : Int) < mA := by omega
                obtain ⟨cv, hcv⟩ := cell_ex g3 (show q < cur.size by omega)
                have hfz := heap_frozen g3 q
                have G1 := Lib.hid (And.intro g1 g2)
                clear g1 g2 g3 g4 h9
                go_wp2_with fail
                go_roundw
                case rel => exact ⟨q + 1, by omega, by go_num, (Below.heap_setCell _ _ _ _ (by have := G1.out; have := HLTwo.out; dsimp only; omega)).trans HZs2.out, (Below.heap_setCell _ _ _ _ (by have := G1.out; dsimp only; omega)).trans HLs2.out, HrA1s2.out.set _ _ _, HrA2s2.out.set _ _ _, HrC1s2.out.set _ _ _, HrC2s2.out.set _ _ _, HBs2.out.setCell G1.out.1 _⟩
                case measure => simp [intOf]; omega
            · obtain rfl : mA = q := by omega
              have n1 : ¬ (mA : Int) < mA := by omega
              go_wp2_with fail
              go_roundw
              case rel => exact ⟨1, by omega, rfl, HLs2.out, HrA1s2.out, HrA2s2.out, HrC1s2.out, HrC2s2.out, HBs2.out⟩
              case measure => simp [intOf]
    · have l0 := heap_cell HLk.out (v := .slice aC nC cC) (j := 3) rfl
      have l1 := heap_cell HLk.out (v := .slice bC mC dC) (j := 4) rfl
      have l2 := heap_cell HLk.out (v := .int .i64 kC) (j := 5) rfl
      go_upto_region 12 with fail
      obtain ⟨U, hU⟩ : ∃ x, wr.alloc (cansB aC nC cC bC mC dC kC) = x := ⟨_, rfl⟩
      have hb : Below wr.heap.size wr U := by rw [← hU]; exact below_new _ _
      have HZU : Hid (U.heap[wr.heap.size]? = some (cansB aC nC cC bC mC dC kC)) := Lib.hid (by rw [← hU]; exact heap_top _ _ rfl)
      have HLU := Lib.hid (heap_lft HLk.out hb)
      have HrA1U := Lib.hid (HrA1k.out.below hb)
      have HrA2U := Lib.hid (HrA2k.out.below hb)
      have HrC1U := Lib.hid (HrC1k.out.below hb)
      have HrC2U := Lib.hid (HrC2k.out.below hb)
      have HBU := Lib.hid (below_thn HBk.out hb)
      try rw [hU]
      clear hU hb l0 l1 l2
      obtain ⟨wo, rfl⟩ : ∃ x, x = wr := ⟨_, rfl⟩
      have HLTwo : Hid (S1.heap.size < wo.heap.size) := HLT
      have z1 := heap_cell HZU.out (v := .slice aC nC cC) (j := 0) rfl
      go_wp2_with fail
      clear z1
      go_loopw [24, 105] (fun _ i wr => ∃ q : Nat, q ≤ nC ∧ i = .int .i64 q ∧ wr.heap[wo.heap.size]? = some (cansB aC nC cC bC mC dC kC) ∧ wr.heap[S1.heap.size]? = some (.cells #[.slice aA nA cA, .slice bA mA dA, .int .i64 kA, .slice aC nC cC, .slice bC mC dC, .int .i64 kC] 24) ∧ RowOk wr V0.heap.size S1.heap.size 1 aA nA ∧ RowOk wr V0.heap.size S1.heap.size 1 bA mA ∧ RowOk wr V0.heap.size S1.heap.size 1 aC nC ∧ RowOk wr V0.heap.size S1.heap.size 1 bC mC ∧ Below V0.heap.size V0 wr) (fun _ i _ => nC - (intOf i).toNat)
      case atStart => exact ⟨0, Nat.zero_le _, rfl, HZU.out, HLU.out, HrA1U.out, HrA2U.out, HrC1U.out, HrC2U.out, HBU.out⟩
      case round =>
        obtain ⟨q, hq, rfl, hz, hl, rA1, rA2, rC1, rC2, hb⟩ := hrel
        have HZs1 := Lib.hid hz
        have HLs1 := Lib.hid hl
        have HrA1s1 := Lib.hid rA1
        have HrA2s1 := Lib.hid rA2
        have HrC1s1 := Lib.hid rC1
        have HrC2s1 := Lib.hid rC2
        have HBs1 := Lib.hid hb
        clear hz hl rA1 rA2 rC1 rC2 hb
        have z1 := heap_cell HZs1.out (v := .slice aC nC cC) (j := 0) rfl
        have hnx : nC ≤ 10 := by have := HNXC.out; omega
        by_cases hq1 : q < nC
        · rcases HrC1s1.out with h0 | ⟨g, cur, ty, h9, g1, g2, g3, g4⟩
          · exact absurd hq1 (by omega)
          · have HAX := Lib.hid h9
            rw [h9] at z1
            have n1 : (q : Int) < nC := by omega
            obtain ⟨cv, hcv⟩ := cell_ex g3 (show q < cur.size by omega)
            have hfz := heap_frozen g3 q
            have G1 := Lib.hid (And.intro g1 g2)
            clear g1 g2 g3 g4 h9
            go_wp2_with fail
            go_roundw
            case rel => exact ⟨q + 1, by omega, by go_num, (Below.heap_setCell _ _ _ _ (by have := G1.out; have := HLTwo.out; dsimp only; omega)).trans HZs1.out, (Below.heap_setCell _ _ _ _ (by have := G1.out; dsimp only; omega)).trans HLs1.out, HrA1s1.out.set _ _ _, HrA2s1.out.set _ _ _, HrC1s1.out.set _ _ _, HrC2s1.out.set _ _ _, HBs1.out.setCell G1.out.1 _⟩
            case measure => simp [intOf]; omega
        · obtain rfl : nC = q := by omega
          have n1 : ¬ (nC : Int) < nC := by omega
          clear z1
          have z1 := heap_cell HZs1.out (v := .slice bC mC dC) (j := 1) rfl
          go_wp2_with fail
          clear z1
          go_loopw [25, 116] (fun _ i wr => ∃ q : Nat, q ≤ mC ∧ i = .int .i64 q ∧ wr.heap[wo.heap.size]? = some (cansB aC nC cC bC mC dC kC) ∧ wr.heap[S1.heap.size]? = some (.cells #[.slice aA nA cA, .slice bA mA dA, .int .i64 kA, .slice aC nC cC, .slice bC mC dC, .int .i64 kC] 24) ∧ RowOk wr V0.heap.size S1.heap.size 1 aA nA ∧ RowOk wr V0.heap.size S1.heap.size 1 bA mA ∧ RowOk wr V0.heap.size S1.heap.size 1 aC nC ∧ RowOk wr V0.heap.size S1.heap.size 1 bC mC ∧ Below V0.heap.size V0 wr) (fun _ i _ => mC - (intOf i).toNat)
          case atStart => exact ⟨0, Nat.zero_le _, rfl, HZs1.out, HLs1.out, HrA1s1.out, HrA2s1.out, HrC1s1.out, HrC2s1.out, HBs1.out⟩
          case round =>
            obtain ⟨q, hq, rfl, hz, hl, rA1, rA2, rC1, rC2, hb⟩ := hrel
            have HZs2 := Lib.hid hz
            have HLs2 := Lib.hid hl
            have HrA1s2 := Lib.hid rA1
            have HrA2s2 := Lib.hid rA2
            have HrC1s2 := Lib.hid rC1
            have HrC2s2 := Lib.hid rC2
            have HBs2 := Lib.hid hb
            clear hz hl rA1 rA2 rC1 rC2 hb
            have z1 := heap_cell HZs2.out (v := .slice bC mC dC) (j := 1) rfl
            have hnx : mC ≤ 10 := by have := HNXC.out; omega
            by_cases hq1 : q < mC
            · rcases HrC2s2.out with h0 | ⟨g, cur, ty, h9, g1, g2, g3, g4⟩
              · exact absurd hq1 (by omega)
              · have HAX := Lib.hid h9
                rw [h9] at z1
                have n1 : (q : Int) < mC := by omega
                obtain ⟨cv, hcv⟩ := cell_ex g3 (show q < cur.size by omega)
                have hfz := heap_frozen g3 q
                have G1 := Lib.hid (And.intro g1 g2)
                clear g1 g2 g3 g4 h9
                go_wp2_with fail
                go_roundw
                case rel => exact ⟨q + 1, by omega, by go_num, (Below.heap_setCell _ _ _ _ (by have := G1.out; have := HLTwo.out; dsimp only; omega)).trans HZs2.out, (Below.heap_setCell _ _ _ _ (by have := G1.out; dsimp only; omega)).trans HLs2.out, HrA1s2.out.set _ _ _, HrA2s2.out.set _ _ _, HrC1s2.out.set _ _ _, HrC2s2.out.set _ _ _, HBs2.out.setCell G1.out.1 _⟩
                case measure => simp [intOf]; omega
            · obtain rfl : mC = q := by omega
              have n1 : ¬ (mC : Int) < mC := by omega
              go_wp2_with fail
              go_roundw
              case rel => exact ⟨2, by omega, rfl, HLs2.out, HrA1s2.out, HrA2s2.out, HrC1s2.out, HrC2s2.out, HBs2.out⟩
              case measure => simp [intOf]
    · have HT9 := Lib.hid (heap_lft HTV0.out HBk.out)
      have HX9 := Lib.hid (heap_lft HXV0.out HBk.out)
      have HA9 := Lib.hid (show NumsAt wr a1 n A from by have h := (HAV0.out.below HBk.out).nums; rwa [Nat.mul_one] at h)
      have HC9 := Lib.hid (show NumsAt wr a2 m B from by have h := (HCV0.out.below HBk.out).nums; rwa [Nat.mul_one] at h)
      have HF9 := Lib.hid (HFV0.out.below HBk.out)
      have HG9 := Lib.hid (HGV0.out.below HBk.out)
      have HLI9 := Lib.hid (HLIV0.out.below HBk.out).nums
      have HL9 := Lib.hid (HLV0.out.below HBk.out)
      have hn60 : n ≤ 60 ∧ m ≤ 60 := by have := HN.out; omega
      have HN60 := Lib.hid hn60
      clear hn60
      have p0 := heap_cell HX9.out (v := .slice a n c) (j := 0) rfl
      have p1 := heap_cell HX9.out (v := .slice b m d) (j := 1) rfl
      have p2 := heap_cell HX9.out (v := .int .i64 k) (j := 2) rfl
      have t0 := heap_cell HT9.out (v := .slice a1 n c1) (j := 0) rfl
      have t1 := heap_cell HT9.out (v := .slice a2 m c2) (j := 1) rfl
      have t2 := heap_cell HT9.out (v := .int .i64 k) (j := 2) rfl
      go_upto_region 23 with fail
      have xx0 := among_below p0
      have xx1 := among_below p1
      have xx2 := among_below p2
      have xx3 := among_below t0
      have xx4 := among_below t1
      have xx5 := among_below t2
      have HC1 : Hid (∀ xq : Among (Below wr.heap.size wr), Calls Try.prog 11 #[cansV a1 n c1 a2 m c2 k] xq.val fun e w' => e = .returned (.int .i64 (Pure.err (Pure.cans n A m B k) 80)) ∧ ∃ y : Among (Below wr.heap.size wr), w' = y.val) := Lib.hid (fun xq => calls_class ((check_any a1 n c1 a2 m c2 k A B HN60.out.1 HN60.out.2 xq.val (HA9.out.below xq.ok) (HC9.out.below xq.ok)).mono fun e w' h => ⟨h.1, xq.ok.trans (h.2.mono xq.ok.size)⟩))
      have HC2 : Hid (∀ xq : Among (Below wr.heap.size wr), Calls Try.prog 12 #[cansV a n c b m d k] xq.val fun e w' => e = .returned (.int .i64 (Pure.err (Pure.cans n A m B k) 80)) ∧ ∃ y : Among (Below wr.heap.size wr), w' = y.val) := Lib.hid (fun xq => calls_class ((rCheck_any a n c b m d k A B HN60.out.1 xq.val (HF9.out.below xq.ok) (HG9.out.below xq.ok)).mono fun e w' h => ⟨h.1, xq.ok.trans (h.2.mono xq.ok.size)⟩))
      have HC3 : Hid (∀ xq : Among (Below wr.heap.size wr), Calls Try.prog 10 #[cansV a1 n c1 a2 m c2 k, cansV a n c b m d k] xq.val fun e w' => e = .returned (.bool true) ∧ ∃ y : Among (Below wr.heap.size wr), w' = y.val) := Lib.hid (fun xq => calls_class ((same_true a1 n c1 a2 m c2 k a c b d A B HN60.out.1 HN60.out.2 xq.val (HA9.out.below xq.ok) (HC9.out.below xq.ok) (HF9.out.below xq.ok) (HG9.out.below xq.ok)).mono fun e w' h => ⟨h.1, xq.ok.trans (h.2.mono xq.ok.size)⟩))
      have HC4 : Hid (∀ xq : Among (Below wr.heap.size wr), Calls Try.prog 13 #[.slice al len cl, .slice la len cap] xq.val fun e w' => e = .returned (.bool true) ∧ ∃ y : Among (Below wr.heap.size wr), w' = y.val) := Lib.hid (fun xq => calls_class ((samePours_any al la len cl cap X (by have := HN.out; omega) xq.val (HLI9.out.below xq.ok) (HL9.out.below xq.ok)).mono fun e w' h => ⟨h.1, xq.ok.trans (h.2.mono xq.ok.size)⟩))
      have HSt : Hid (Below wr.heap.size wr wr.drew) := Lib.hid (Below.refl _ _).drew
      have hne : Nonempty (Among (Below wr.heap.size wr)) := ⟨⟨_, HSt.out⟩⟩
      refine wp_region_class (Below wr.heap.size wr) (by kernel_rfl) (by kernel_rfl) HSt.out ?_
      repeat (go_big_quiet_step ((first | (go_at_call 11; with_reducible exact HC1.out _) | (go_at_call 12; with_reducible exact HC2.out _) | (go_at_call 10; with_reducible exact HC3.out _) | (go_at_call 13; with_reducible exact HC4.out _))))
      refine wpQuiet_nil ?_
      intro w8 hx
      have HB8 := Lib.hid (among_out hx)
      clear hx hne xx0 xx1 xx2 xx3 xx4 xx5 p0 p1 p2 t0 t1 t2
      go_wp2_with fail
      go_ret
      exact ⟨by simp, below_thn HBV0.out (HBk.out.trans (HB8.out.mono (by have := HLT.out; have := HSZ0.out; omega)))⟩

end Go.Proofs.Ytjemcmehgkhhlaa
