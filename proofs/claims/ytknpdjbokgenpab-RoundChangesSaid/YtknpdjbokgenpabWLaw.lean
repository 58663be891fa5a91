/-
  RoundChanges: the law's walk.
-/
import Derived.Test.YtknpdjbokgenpabWRPut
namespace Go.Proofs.Ytknpdjbokgenpab
open Go.RowKit

theorem OwnNums.nil {w : World} {base : Nat} {t : TypeId} {k : Nat} {a : Option Addr} {len cap : Nat} {F : Nat → Int} (h : OwnNums w base t k a len cap F) (e : a = none) : len = 0 ∧ cap = 0 := by
  rcases h.own_block with ⟨_, h1, h2⟩ | ⟨g, h1, _⟩
  · exact ⟨h1, h2⟩
  · rw [e] at h1; cases h1
/-- Two that put the same rick into the same watch give the same. -/
theorem PutOut.same {h : Int} {n : Nat} {F : Nat → Int} {i e d : Int} {w1 w1' w2 w2' : World} {hh : Int} {aa : Option Addr} {nn cc : Nat} {code : Int} {hh' : Int} {aa' : Option Addr} {nn' cc' : Nat} {code' : Int}
    (p1 : PutOut h n F i e d w1 (.returned (.tuple #[watchV hh aa nn cc, .int .i64 code])) w1') (p2 : PutOut h n F i e d w2 (.returned (.tuple #[watchV hh' aa' nn' cc', .int .i64 code'])) w2') :
    hh = hh' ∧ nn = nn' ∧ code = code' ∧ nn ≤ n + 1 ∧ ∃ G, OwnNums w1' w1.heap.size 26 3 aa nn cc G ∧ OwnNums w2' w2.heap.size 26 3 aa' nn cc' G := by
  obtain ⟨_, _, _, _, _, e1, _, q1⟩ := p1
  obtain ⟨_, _, _, _, _, e2, _, q2⟩ := p2
  cases e1
  cases e2
  rcases q1 with ⟨a1, ⟨b1, b2, b3, b4⟩, a3⟩ | ⟨a1, a2, ⟨b1, b2, b3, b4⟩, a4⟩ | ⟨a1, a2, k, a3, q1⟩
  · rcases q2 with ⟨c1, ⟨d1, d2, d3, d4⟩, c3⟩ | ⟨c1, _⟩ | ⟨c1, _⟩
    · subst b1; subst b2; subst b3; subst b4; subst d1; subst d2; subst d3; subst d4; subst a3; subst c3
      exact ⟨rfl, rfl, rfl, by omega, fun _ => 0, own_nil _ _ _ _ _, own_nil _ _ _ _ _⟩
    · rw [a1] at c1; cases c1
    · rw [a1] at c1; cases c1
  · rcases q2 with ⟨c1, _⟩ | ⟨c1, c2, ⟨d1, d2, d3, d4⟩, c4⟩ | ⟨c1, c2, _⟩
    · rw [a1] at c1; cases c1
    · subst b1; subst b2; subst b3; subst b4; subst d1; subst d2; subst d3; subst d4; subst a4; subst c4
      exact ⟨rfl, rfl, rfl, by omega, fun _ => 0, own_nil _ _ _ _ _, own_nil _ _ _ _ _⟩
    · exact absurd c2 a2
  · rcases q2 with ⟨c1, _⟩ | ⟨c1, c2, _⟩ | ⟨c1, c2, k', c3, q2⟩
    · rw [a1] at c1; cases c1
    · exact absurd a2 c2
    · obtain rfl := a3.same c3
      rcases q1 with ⟨f1, ⟨b1, b2, b3, b4⟩, f3⟩ | ⟨f1, f2, f3, f4, f5⟩
      · rcases q2 with ⟨g1, ⟨d1, d2, d3, d4⟩, g3⟩ | ⟨g1, _⟩
        · subst b1; subst b2; subst b3; subst b4; subst d1; subst d2; subst d3; subst d4; subst f3; subst g3
          exact ⟨rfl, rfl, rfl, by omega, fun _ => 0, own_nil _ _ _ _ _, own_nil _ _ _ _ _⟩
        · rw [f1] at g1; cases g1
      · rcases q2 with ⟨g1, _⟩ | ⟨g1, g2, g3, g4, g5⟩
        · rw [f1] at g1; cases g1
        · subst f2; subst f3; subst f4; subst g2; subst g3; subst g4
          exact ⟨rfl, rfl, rfl, Nat.le_refl _, _, f5, g5⟩
theorem DropOut.same {h : Int} {n : Nat} {F : Nat → Int} {id : Int} {w1 w1' w2 w2' : World} {hh : Int} {aa : Option Addr} {nn cc : Nat} {code : Int} {hh' : Int} {aa' : Option Addr} {nn' cc' : Nat} {code' : Int}
    (p1 : DropOut h n F id w1 (.returned (.tuple #[watchV hh aa nn cc, .int .i64 code])) w1') (p2 : DropOut h n F id w2 (.returned (.tuple #[watchV hh' aa' nn' cc', .int .i64 code'])) w2') :
    hh = hh' ∧ nn = nn' ∧ code = code' ∧ nn ≤ n + 1 ∧ ∃ G, OwnNums w1' w1.heap.size 26 3 aa nn cc G ∧ OwnNums w2' w2.heap.size 26 3 aa' nn cc' G := by
  obtain ⟨_, _, _, _, _, e1, _, q1⟩ := p1
  obtain ⟨_, _, _, _, _, e2, _, q2⟩ := p2
  cases e1
  cases e2
  rcases q1 with ⟨a1, ⟨b1, b2, b3, b4⟩, a3⟩ | ⟨a1, a2, ⟨b1, b2, b3, b4⟩, a4⟩ | ⟨a1, k, a2, a3, f2, f3, f4, f5⟩
  · rcases q2 with ⟨c1, ⟨d1, d2, d3, d4⟩, c3⟩ | ⟨c1, _⟩ | ⟨c1, _⟩
    · subst b1; subst b2; subst b3; subst b4; subst d1; subst d2; subst d3; subst d4; subst a3; subst c3
      exact ⟨rfl, rfl, rfl, by omega, fun _ => 0, own_nil _ _ _ _ _, own_nil _ _ _ _ _⟩
    · rw [a1] at c1; cases c1
    · rw [a1] at c1; cases c1
  · rcases q2 with ⟨c1, _⟩ | ⟨c1, c2, ⟨d1, d2, d3, d4⟩, c4⟩ | ⟨c1, k', c2, c3, _⟩
    · rw [a1] at c1; cases c1
    · subst b1; subst b2; subst b3; subst b4; subst d1; subst d2; subst d3; subst d4; subst a4; subst c4
      exact ⟨rfl, rfl, rfl, by omega, fun _ => 0, own_nil _ _ _ _ _, own_nil _ _ _ _ _⟩
    · rw [a2] at c3; omega
  · rcases q2 with ⟨c1, _⟩ | ⟨c1, c2, _⟩ | ⟨c1, k', c2, c3, g2, g3, g4, g5⟩
    · rw [a1] at c1; cases c1
    · rw [c2] at a3; omega
    · obtain rfl : k = k' := by rw [a3] at c3; omega
      subst f2; subst f3; subst f4; subst g2; subst g3; subst g4
      exact ⟨rfl, rfl, rfl, by omega, _, f5, g5⟩

set_option maxHeartbeats 40000000 in
set_option maxRecDepth 100000 in
theorem changes_walk (h : Int) (a : Option Addr) (n c : Nat) (F : Nat → Int) (i e d id : Int) (hc : n ≤ c) (hnil : a = none → n = 0) (w : World) (hF : NumsAt w a (n * 3) F) :
    Calls Try.prog 3 #[watchV h a n c, rickV i e d, .int .i64 id] w fun x w' => x = .returned (.bool true) ∧ Below w.heap.size w w' := by
  obtain ⟨W, hW⟩ : ∃ W, (w.alloc (watchB h a n c)).alloc (rickB i e d) = W := ⟨_, rfl⟩
  have HB : Hid (Below w.heap.size w W) := Lib.hid (by rw [← hW]; exact (below_new _ _).alloc (by simp) _)
  have HX : Hid (W.heap[w.heap.size]? = some (watchB h a n c)) := Lib.hid (by rw [← hW]; exact heap_up (heap_top _ _ rfl) _)
  have HI : Hid (W.heap[w.heap.size + 1]? = some (rickB i e d)) := Lib.hid (by rw [← hW]; exact heap_top _ _ (by simp))
  have HP := Lib.hid (hF.below HB.out)
  have HC := Lib.hid (And.intro hc hnil)
  clear hF hc hnil
  have x0 := heap_cell HX.out (j := 0) rfl
  have x1 := heap_cell HX.out (j := 1) rfl
  go_enter Try.func3, Try.ntmps3
  go_upto_region 1 with fail
  try rw [hW]
  clear hW
  go_wp2_with fail
  refine (great_any h a n c _).mono ?_
  rintro e1 W1 ⟨rfl, hb⟩
  have HXW1 := Lib.hid (heap_lft HX.out hb)
  have HIW1 := Lib.hid (heap_lft HI.out hb)
  have HBW1 := Lib.hid (below_thn HB.out hb)
  have HPW1 := Lib.hid (HP.out.below hb)
  clear hb x0 x1
  by_cases hbig : (10 : Int) < n
  · have hbt : decide ((10 : Int) < n) = true := decide_eq_true hbig
    go_wp2_with fail
    go_ret
    exact ⟨rfl, HBW1.out⟩
  · have hbt : decide ((10 : Int) < n) = false := decide_eq_false hbig
    have HN : Hid (n ≤ 10) := Lib.hid (by omega)
    clear hbig
    have x0 := heap_cell HXW1.out (j := 0) rfl
    have x1 := heap_cell HXW1.out (j := 1) rfl
    go_wp2_with fail
    refine (twin_any h a n c F (by have := HN.out; omega) HC.out.2 _ HPW1.out).mono ?_
    rintro e1 W2 ⟨a1, c1, rfl, ho, hb⟩
    clear hbt x0 x1
    have HXW2 := Lib.hid (heap_lft HXW1.out hb)
    have HIW2 := Lib.hid (heap_lft HIW1.out hb)
    have HBW2 := Lib.hid (below_thn HBW1.out hb)
    have HPW2 := Lib.hid (HPW1.out.below hb)
    have HOW2 := Lib.hid ho
    clear hb ho
    go_upto_region 4 with fail
    obtain ⟨V0, hV0⟩ : ∃ x, W2.alloc (watchB h a1 n c1) = x := ⟨_, rfl⟩
    have hb : Below W2.heap.size W2 V0 := by rw [← hV0]; exact below_new _ _
    have HTV0 : Hid (V0.heap[W2.heap.size]? = some (watchB h a1 n c1)) := Lib.hid (by rw [← hV0]; exact heap_top _ _ rfl)
    have HXV0 := Lib.hid (heap_lft HXW2.out hb)
    have HIV0 := Lib.hid (heap_lft HIW2.out hb)
    have HPV0 := Lib.hid (HPW2.out.below hb)
    have HOV0 := Lib.hid (HOW2.out.below hb)
    have HBV0 := Lib.hid (below_thn HBW2.out hb)
    try rw [hV0]
    clear hV0 hb
    have x0 := heap_cell HTV0.out (j := 0) rfl
    have x1 := heap_cell HTV0.out (j := 1) rfl
    have i0 := heap_cell HIV0.out (j := 0) rfl
    have i1 := heap_cell HIV0.out (j := 1) rfl
    have i2 := heap_cell HIV0.out (j := 2) rfl
    go_wp2_with fail
    refine (put_any h a1 n c1 F i e d (by have := HN.out; omega) (fun e => HOV0.out.nil e) _ HOV0.out.nums).mono ?_
    rintro e1 PA hp
    obtain ⟨hA, aA, nA, cA, codeA, he, hb, _⟩ := _root_.id hp
    subst he
    have HOA := Lib.hid hp
    clear hp x0 x1 i0 i1 i2
    have HB0PA := Lib.hid hb
    have HSZA : Hid (V0.heap.size ≤ PA.heap.size) := Lib.hid hb.size
    have HXPA := Lib.hid (heap_lft HXV0.out hb)
    have HIPA := Lib.hid (heap_lft HIV0.out hb)
    have HTPA := Lib.hid (heap_lft HTV0.out hb)
    have HPPA := Lib.hid (HPV0.out.below hb)
    have HOPA := Lib.hid (HOV0.out.below hb)
    have HBPA := Lib.hid (below_thn HBV0.out hb)
    clear hb
    go_upto_region 5 with fail
    obtain ⟨V1, hV1⟩ : ∃ x, PA.alloc (watchB hA aA nA cA) = x := ⟨_, rfl⟩
    have hb : Below PA.heap.size PA V1 := by rw [← hV1]; exact below_new _ _
    have HRAV1 : Hid (V1.heap[PA.heap.size]? = some (watchB hA aA nA cA)) := Lib.hid (by rw [← hV1]; exact heap_top _ _ rfl)
    have HXV1 := Lib.hid (heap_lft HXPA.out hb)
    have HIV1 := Lib.hid (heap_lft HIPA.out hb)
    have HTV1 := Lib.hid (heap_lft HTPA.out hb)
    have HPV1 := Lib.hid (HPPA.out.below hb)
    have HOV1 := Lib.hid (HOPA.out.below hb)
    have HBV1 := Lib.hid (below_thn HBPA.out hb)
    have HBL := Lib.hid hb
    try rw [hV1]
    clear hV1 hb
    have HLAV1 := HBL
    clear HBL
    have x0 := heap_cell HXV1.out (j := 0) rfl
    have x1 := heap_cell HXV1.out (j := 1) rfl
    have i0 := heap_cell HIV1.out (j := 0) rfl
    have i1 := heap_cell HIV1.out (j := 1) rfl
    have i2 := heap_cell HIV1.out (j := 2) rfl
    go_wp2_with fail
    refine (rPut_any h a n c F i e d (by have := HN.out; omega) HC.out.1 HC.out.2 _ HPV1.out).mono ?_
    rintro e1 PB hp
    obtain ⟨hB, aB, nB, cB, codeB, he, hb, _⟩ := _root_.id hp
    subst he
    have HOB := Lib.hid hp
    clear hp x0 x1 i0 i1 i2
    have HSZB : Hid (V1.heap.size ≤ PB.heap.size) := Lib.hid hb.size
    have HXPB := Lib.hid (heap_lft HXV1.out hb)
    have HIPB := Lib.hid (heap_lft HIV1.out hb)
    have HTPB := Lib.hid (heap_lft HTV1.out hb)
    have HRAPB := Lib.hid (heap_lft HRAV1.out hb)
    have HPPB := Lib.hid (HPV1.out.below hb)
    have HOPB := Lib.hid (HOV1.out.below hb)
    have HBPB := Lib.hid (below_thn HBV1.out hb)
    have HLAPB := Lib.hid (HLAV1.out.trans (hb.mono (HLAV1.out.size)))
    clear hb
    go_upto_region 6 with fail
    obtain ⟨V2, hV2⟩ : ∃ x, PB.alloc (watchB hB aB nB cB) = x := ⟨_, rfl⟩
    have hb : Below PB.heap.size PB V2 := by rw [← hV2]; exact below_new _ _
    have HRBV2 : Hid (V2.heap[PB.heap.size]? = some (watchB hB aB nB cB)) := Lib.hid (by rw [← hV2]; exact heap_top _ _ rfl)
    have HXV2 := Lib.hid (heap_lft HXPB.out hb)
    have HIV2 := Lib.hid (heap_lft HIPB.out hb)
    have HTV2 := Lib.hid (heap_lft HTPB.out hb)
    have HRAV2 := Lib.hid (heap_lft HRAPB.out hb)
    have HPV2 := Lib.hid (HPPB.out.below hb)
    have HOV2 := Lib.hid (HOPB.out.below hb)
    have HBV2 := Lib.hid (below_thn HBPB.out hb)
    have HBL := Lib.hid hb
    try rw [hV2]
    clear hV2 hb
    have HLBV2 := HBL
    clear HBL
    have HLAV2 := Lib.hid (HLAPB.out.trans (HLBV2.out.mono HLAPB.out.size))
    have x0 := heap_cell HTV2.out (j := 0) rfl
    have x1 := heap_cell HTV2.out (j := 1) rfl
    go_wp2_with fail
    refine (drop_any h a1 n c1 F id (by have := HN.out; omega) (fun e => HOV2.out.nil e) _ HOV2.out.nums).mono ?_
    rintro e1 PC hp
    obtain ⟨hC, aC, nC, cC, codeC, he, hb, _⟩ := _root_.id hp
    subst he
    have HOC := Lib.hid hp
    clear hp x0 x1
    have HSZC : Hid (V2.heap.size ≤ PC.heap.size) := Lib.hid hb.size
    have HXPC := Lib.hid (heap_lft HXV2.out hb)
    have HIPC := Lib.hid (heap_lft HIV2.out hb)
    have HTPC := Lib.hid (heap_lft HTV2.out hb)
    have HRAPC := Lib.hid (heap_lft HRAV2.out hb)
    have HRBPC := Lib.hid (heap_lft HRBV2.out hb)
    have HPPC := Lib.hid (HPV2.out.below hb)
    have HOPC := Lib.hid (HOV2.out.below hb)
    have HBPC := Lib.hid (below_thn HBV2.out hb)
    have HLAPC := Lib.hid (HLAV2.out.trans (hb.mono (HLAV2.out.size)))
    have HLBPC := Lib.hid (HLBV2.out.trans (hb.mono (HLBV2.out.size)))
    clear hb
    go_upto_region 7 with fail
    obtain ⟨V3, hV3⟩ : ∃ x, PC.alloc (watchB hC aC nC cC) = x := ⟨_, rfl⟩
    have hb : Below PC.heap.size PC V3 := by rw [← hV3]; exact below_new _ _
    have HRCV3 : Hid (V3.heap[PC.heap.size]? = some (watchB hC aC nC cC)) := Lib.hid (by rw [← hV3]; exact heap_top _ _ rfl)
    have HXV3 := Lib.hid (heap_lft HXPC.out hb)
    have HIV3 := Lib.hid (heap_lft HIPC.out hb)
    have HTV3 := Lib.hid (heap_lft HTPC.out hb)
    have HRAV3 := Lib.hid (heap_lft HRAPC.out hb)
    have HRBV3 := Lib.hid (heap_lft HRBPC.out hb)
    have HPV3 := Lib.hid (HPPC.out.below hb)
    have HOV3 := Lib.hid (HOPC.out.below hb)
    have HBV3 := Lib.hid (below_thn HBPC.out hb)
    have HBL := Lib.hid hb
    try rw [hV3]
    clear hV3 hb
    have HLCV3 := HBL
    clear HBL
    have HLAV3 := Lib.hid (HLAPC.out.trans (HLCV3.out.mono HLAPC.out.size))
    have HLBV3 := Lib.hid (HLBPC.out.trans (HLCV3.out.mono HLBPC.out.size))
    have x0 := heap_cell HXV3.out (j := 0) rfl
    have x1 := heap_cell HXV3.out (j := 1) rfl
    go_wp2_with fail
    refine (rDrop_any h a n c F id (by have := HN.out; omega) HC.out.1 _ HPV3.out).mono ?_
    rintro e1 PD hp
    obtain ⟨hD, aD, nD, cD, codeD, he, hb, _⟩ := _root_.id hp
    subst he
    have HOD := Lib.hid hp
    clear hp x0 x1
    have HSZD : Hid (V3.heap.size ≤ PD.heap.size) := Lib.hid hb.size
    have HXPD := Lib.hid (heap_lft HXV3.out hb)
    have HIPD := Lib.hid (heap_lft HIV3.out hb)
    have HTPD := Lib.hid (heap_lft HTV3.out hb)
    have HRAPD := Lib.hid (heap_lft HRAV3.out hb)
    have HRBPD := Lib.hid (heap_lft HRBV3.out hb)
    have HRCPD := Lib.hid (heap_lft HRCV3.out hb)
    have HPPD := Lib.hid (HPV3.out.below hb)
    have HOPD := Lib.hid (HOV3.out.below hb)
    have HBPD := Lib.hid (below_thn HBV3.out hb)
    have HLAPD := Lib.hid (HLAV3.out.trans (hb.mono (HLAV3.out.size)))
    have HLBPD := Lib.hid (HLBV3.out.trans (hb.mono (HLBV3.out.size)))
    have HLCPD := Lib.hid (HLCV3.out.trans (hb.mono (HLCV3.out.size)))
    clear hb
    go_upto_region 8 with fail
    obtain ⟨V4, hV4⟩ : ∃ x, PD.alloc (watchB hD aD nD cD) = x := ⟨_, rfl⟩
    have hb : Below PD.heap.size PD V4 := by rw [← hV4]; exact below_new _ _
    have HRDV4 : Hid (V4.heap[PD.heap.size]? = some (watchB hD aD nD cD)) := Lib.hid (by rw [← hV4]; exact heap_top _ _ rfl)
    have HXV4 := Lib.hid (heap_lft HXPD.out hb)
    have HIV4 := Lib.hid (heap_lft HIPD.out hb)
    have HTV4 := Lib.hid (heap_lft HTPD.out hb)
    have HRAV4 := Lib.hid (heap_lft HRAPD.out hb)
    have HRBV4 := Lib.hid (heap_lft HRBPD.out hb)
    have HRCV4 := Lib.hid (heap_lft HRCPD.out hb)
    have HPV4 := Lib.hid (HPPD.out.below hb)
    have HOV4 := Lib.hid (HOPD.out.below hb)
    have HBV4 := Lib.hid (below_thn HBPD.out hb)
    have HBL := Lib.hid hb
    try rw [hV4]
    clear hV4 hb
    have HLDV4 := HBL
    clear HBL
    have HLAV4 := Lib.hid (HLAPD.out.trans (HLDV4.out.mono HLAPD.out.size))
    have HLBV4 := Lib.hid (HLBPD.out.trans (HLDV4.out.mono HLBPD.out.size))
    have HLCV4 := Lib.hid (HLCPD.out.trans (HLDV4.out.mono HLCPD.out.size))
    obtain ⟨rfl, rfl, rfl, hnA, GA, hoA, hoB⟩ := HOA.out.same HOB.out
    obtain ⟨rfl, rfl, rfl, hnC, GC, hoC, hoD⟩ := HOC.out.same HOD.out
    have HNA : Hid (nA ≤ 11) := Lib.hid (by have := HN.out; omega)
    have HNC : Hid (nC ≤ 11) := Lib.hid (by have := HN.out; omega)
    have HWA := Lib.hid (hoA.below HLAV4.out)
    have HWB := Lib.hid (hoB.below HLBV4.out)
    have HWC := Lib.hid (hoC.below HLCV4.out)
    have HWD := Lib.hid (hoD.below HLDV4.out)
    clear hnA hnC hoA hoB hoC hoD
    have x0 := heap_cell HRAV4.out (j := 0) rfl
    have x1 := heap_cell HRAV4.out (j := 1) rfl
    have y0 := heap_cell HRBV4.out (j := 0) rfl
    have y1 := heap_cell HRBV4.out (j := 1) rfl
    have u0 := heap_cell HRCV4.out (j := 0) rfl
    have u1 := heap_cell HRCV4.out (j := 1) rfl
    have v0 := heap_cell HRDV4.out (j := 0) rfl
    have v1 := heap_cell HRDV4.out (j := 1) rfl
    go_wp2_with fail
    refine (same_true hA aA nA cA aB cB GA (by have := HNA.out; omega) _ HWA.out.nums HWB.out.nums).mono ?_
    rintro e1 V5 ⟨rfl, hb⟩
    have HL45 := Lib.hid hb
    have HRCV5 := Lib.hid (heap_lft HRCV4.out hb)
    have HRDV5 := Lib.hid (heap_lft HRDV4.out hb)
    clear hb x0 x1 y0 y1 u0 u1 v0 v1
    have u0 := heap_cell HRCV5.out (j := 0) rfl
    have u1 := heap_cell HRCV5.out (j := 1) rfl
    have v0 := heap_cell HRDV5.out (j := 0) rfl
    have v1 := heap_cell HRDV5.out (j := 1) rfl
    go_wp2_with fail
    refine (same_true hC aC nC cC aD cD GC (by have := HNC.out; omega) _ (HWC.out.below HL45.out).nums (HWD.out.below HL45.out).nums).mono ?_
    rintro e1 V6 ⟨rfl, hb⟩
    have HL46 := Lib.hid (below_thn HL45.out hb)
    clear hb u0 u1 v0 v1
    have HRAV6 := Lib.hid (heap_lft HRAV4.out HL46.out)
    have HRCV6 := Lib.hid (heap_lft HRCV4.out HL46.out)
    have HWA6 := Lib.hid (HWA.out.below HL46.out)
    have HWC6 := Lib.hid (HWC.out.below HL46.out)
    have x0 := heap_cell HRAV6.out (j := 0) rfl
    have x1 := heap_cell HRAV6.out (j := 1) rfl
    have u0 := heap_cell HRCV6.out (j := 0) rfl
    have u1 := heap_cell HRCV6.out (j := 1) rfl
    go_upto_region 10 with fail
    obtain ⟨V7, hV7⟩ : ∃ x, V6.alloc (.cells #[.int .i64 hA, .slice aA nA cA, .int .i64 hC, .slice aC nC cC] 24) = x := ⟨_, rfl⟩
    have hb : Below V6.heap.size V6 V7 := by rw [← hV7]; exact below_new _ _
    have HLL : Hid (V7.heap[V6.heap.size]? = some (.cells #[.int .i64 hA, .slice aA nA cA, .int .i64 hC, .slice aC nC cC] 24)) := Lib.hid (by rw [← hV7]; exact heap_top _ _ rfl)
    have hsz0 : V0.heap.size ≤ PA.heap.size := HSZA.out
    have hszA : PA.heap.size ≤ V6.heap.size := Nat.le_trans HLAV4.out.size HL46.out.size
    have hszC : PC.heap.size ≤ V6.heap.size := Nat.le_trans HLCV4.out.size HL46.out.size
    have hszB : V2.heap.size ≤ PC.heap.size := HSZC.out
    have hsz2 : V0.heap.size ≤ V2.heap.size := Nat.le_trans hsz0 HLAV2.out.size
    have HRA0 : Hid (RowOk V7 V0.heap.size V6.heap.size 3 aA nA) := Lib.hid (((OwnNums.base HWA6.out (by omega)).row).below hb)
    have HRC0 : Hid (RowOk V7 V0.heap.size V6.heap.size 3 aC nC) := Lib.hid (((OwnNums.base HWC6.out (by omega)).row).below hb)
    have HB07 : Hid (Below V0.heap.size V0 V7) := Lib.hid (((HB0PA.out).trans (HLAV4.out.mono hsz0)).trans ((HL46.out.mono (Nat.le_trans hsz0 HLAV4.out.size)).trans (hb.mono (by omega))))
    have HSZ0 : Hid (V0.heap.size ≤ V6.heap.size) := Lib.hid (by omega)
    try rw [hV7]
    clear hV7 hb hsz0 hszA hszC hszB hsz2 x0 x1 u0 u1
    go_loopw [18, 19, 70, 77] (fun _ _ i _ wr => ∃ k : Nat, k ≤ 2 ∧ i = .int .i64 k ∧ wr.heap[V6.heap.size]? = some (.cells #[.int .i64 hA, .slice aA nA cA, .int .i64 hC, .slice aC nC cC] 24) ∧ RowOk wr V0.heap.size V6.heap.size 3 aA nA ∧ RowOk wr V0.heap.size V6.heap.size 3 aC nC ∧ Below V0.heap.size V0 wr) (fun _ _ i _ _ => 2 - (intOf i).toNat)
    case atStart => exact ⟨0, by omega, rfl, HLL.out, HRA0.out, HRC0.out, HB07.out⟩
    case round =>
      obtain ⟨k, hk, rfl, hl, ra, rc, hb⟩ := hrel
      have HLk := Lib.hid hl
      have HRAk := Lib.hid ra
      have HRCk := Lib.hid rc
      have HBk := Lib.hid hb
      have hltL : V6.heap.size < wr.heap.size := (Array.getElem?_eq_some_iff.1 hl).1
      have HLT := Lib.hid hltL
      clear hl ra rc hb hltL
      have hk3 : k = 0 ∨ k = 1 ∨ k = 2 := by omega
      rcases hk3 with rfl | rfl | rfl
      · have l0 := heap_cell HLk.out (j := 0) rfl
        have l1 := heap_cell HLk.out (j := 1) rfl
        go_upto_region 12 with fail
        obtain ⟨U, hU⟩ : ∃ x, wr.alloc (watchB hA aA nA cA) = x := ⟨_, rfl⟩
        have hb : Below wr.heap.size wr U := by rw [← hU]; exact below_new _ _
        have HZU : Hid (U.heap[wr.heap.size]? = some (watchB hA aA nA cA)) := Lib.hid (by rw [← hU]; exact heap_top _ _ rfl)
        have HLU := Lib.hid (heap_lft HLk.out hb)
        have HRAU := Lib.hid (HRAk.out.below hb)
        have HRCU := Lib.hid (HRCk.out.below hb)
        have HBU := Lib.hid (below_thn HBk.out hb)
        try rw [hU]
        clear hU hb l0 l1
        obtain ⟨wo, rfl⟩ : ∃ x, x = wr := ⟨_, rfl⟩
        have z1 := heap_cell HZU.out (j := 1) rfl
        go_wp2_with fail
        go_loopw [19, 77] (fun _ i wr => ∃ q : Nat, q ≤ nA ∧ i = .int .i64 q ∧ wr.heap[wo.heap.size]? = some (watchB hA aA nA cA) ∧ wr.heap[V6.heap.size]? = some (.cells #[.int .i64 hA, .slice aA nA cA, .int .i64 hC, .slice aC nC cC] 24) ∧ RowOk wr V0.heap.size V6.heap.size 3 aA nA ∧ RowOk wr V0.heap.size V6.heap.size 3 aC nC ∧ Below V0.heap.size V0 wr) (fun _ i _ => nA - (intOf i).toNat)
        case atStart => exact ⟨0, Nat.zero_le _, rfl, HZU.out, HLU.out, HRAU.out, HRCU.out, HBU.out⟩
        case round =>
          obtain ⟨q, hq, rfl, hz, hl, ra, rc, hb⟩ := hrel
          have HZq := Lib.hid hz
          have HLq := Lib.hid hl
          have HRAq := Lib.hid ra
          have HRCq := Lib.hid rc
          have HBq := Lib.hid hb
          clear hz hl ra rc hb z1
          have z1 := heap_cell HZq.out (j := 1) rfl
          have hnx : nA ≤ 11 := HNA.out
          by_cases hq1 : q < nA
          · rcases HRAq.out with h0 | ⟨g, cur, t, h9, g1, g2, g3, g4⟩
            · exact absurd hq1 (by omega)
            · have HAX := Lib.hid h9
              rw [h9] at z1
              have n1 : (q : Int) < nA := by omega
              obtain ⟨cv, hcv⟩ := cell_ex g3 (show q * 3 + 1 < cur.size by omega)
              have hfz := heap_frozen g3 (q * 3 + 1)
              have G1 := Lib.hid (And.intro g1 g2)
              clear g1 g2 g3 g4 h9
              go_wp2_with fail
              go_roundw
              case rel => exact ⟨q + 1, by omega, by go_num, (Below.heap_setCell _ _ _ _ (by have := G1.out; have := HLT.out; dsimp only; omega)).trans HZq.out, (Below.heap_setCell _ _ _ _ (by have := G1.out; dsimp only; omega)).trans HLq.out, HRAq.out.set _ _ _, HRCq.out.set _ _ _, HBq.out.setCell G1.out.1 _⟩
              case measure => simp [intOf]; omega
          · obtain rfl : q = nA := by omega
            have n1 : ¬ (q : Int) < q := by omega
            go_wp2_with fail
            go_roundw
            case rel => exact ⟨1, by omega, rfl, HLq.out, HRAq.out, HRCq.out, HBq.out⟩
            case measure => simp [intOf]
      · have l0 := heap_cell HLk.out (j := 2) rfl
        have l1 := heap_cell HLk.out (j := 3) rfl
        go_upto_region 12 with fail
        obtain ⟨U, hU⟩ : ∃ x, wr.alloc (watchB hC aC nC cC) = x := ⟨_, rfl⟩
        have hb : Below wr.heap.size wr U := by rw [← hU]; exact below_new _ _
        have HZU : Hid (U.heap[wr.heap.size]? = some (watchB hC aC nC cC)) := Lib.hid (by rw [← hU]; exact heap_top _ _ rfl)
        have HLU := Lib.hid (heap_lft HLk.out hb)
        have HRAU := Lib.hid (HRAk.out.below hb)
        have HRCU := Lib.hid (HRCk.out.below hb)
        have HBU := Lib.hid (below_thn HBk.out hb)
        try rw [hU]
        clear hU hb l0 l1
        obtain ⟨wo, rfl⟩ : ∃ x, x = wr := ⟨_, rfl⟩
        have z1 := heap_cell HZU.out (j := 1) rfl
        go_wp2_with fail
        go_loopw [19, 77] (fun _ i wr => ∃ q : Nat, q ≤ nC ∧ i = .int .i64 q ∧ wr.heap[wo.heap.size]? = some (watchB hC aC nC cC) ∧ wr.heap[V6.heap.size]? = some (.cells #[.int .i64 hA, .slice aA nA cA, .int .i64 hC, .slice aC nC cC] 24) ∧ RowOk wr V0.heap.size V6.heap.size 3 aA nA ∧ RowOk wr V0.heap.size V6.heap.size 3 aC nC ∧ Below V0.heap.size V0 wr) (fun _ i _ => nC - (intOf i).toNat)
        case atStart => exact ⟨0, Nat.zero_le _, rfl, HZU.out, HLU.out, HRAU.out, HRCU.out, HBU.out⟩
        case round =>
          obtain ⟨q, hq, rfl, hz, hl, ra, rc, hb⟩ := hrel
          have HZq := Lib.hid hz
          have HLq := Lib.hid hl
          have HRAq := Lib.hid ra
          have HRCq := Lib.hid rc
          have HBq := Lib.hid hb
          clear hz hl ra rc hb z1
          have z1 := heap_cell HZq.out (j := 1) rfl
          have hnx : nC ≤ 11 := HNC.out
          by_cases hq1 : q < nC
          · rcases HRCq.out with h0 | ⟨g, cur, t, h9, g1, g2, g3, g4⟩
            · exact absurd hq1 (by omega)
            · have HAX := Lib.hid h9
              rw [h9] at z1
              have n1 : (q : Int) < nC := by omega
              obtain ⟨cv, hcv⟩ := cell_ex g3 (show q * 3 + 1 < cur.size by omega)
              have hfz := heap_frozen g3 (q * 3 + 1)
              have G1 := Lib.hid (And.intro g1 g2)
              clear g1 g2 g3 g4 h9
              go_wp2_with fail
              go_roundw
              case rel => exact ⟨q + 1, by omega, by go_num, (Below.heap_setCell _ _ _ _ (by have := G1.out; have := HLT.out; dsimp only; omega)).trans HZq.out, (Below.heap_setCell _ _ _ _ (by have := G1.out; dsimp only; omega)).trans HLq.out, HRAq.out.set _ _ _, HRCq.out.set _ _ _, HBq.out.setCell G1.out.1 _⟩
              case measure => simp [intOf]; omega
          · obtain rfl : q = nC := by omega
            have n1 : ¬ (q : Int) < q := by omega
            go_wp2_with fail
            go_roundw
            case rel => exact ⟨2, by omega, rfl, HLq.out, HRAq.out, HRCq.out, HBq.out⟩
            case measure => simp [intOf]
      · have HT9 := Lib.hid (heap_lft HTV0.out HBk.out)
        have HX9 := Lib.hid (heap_lft HXV0.out HBk.out)
        have HO9 := Lib.hid (HOV0.out.below HBk.out)
        have HP9 := Lib.hid (HPV0.out.below HBk.out)
        have x0 := heap_cell HX9.out (j := 0) rfl
        have x1 := heap_cell HX9.out (j := 1) rfl
        have t0 := heap_cell HT9.out (j := 0) rfl
        have t1 := heap_cell HT9.out (j := 1) rfl
        go_wp2_with fail
        refine (same_true h a1 n c1 a c F (by have := HN.out; omega) _ HO9.out.nums HP9.out).mono ?_
        rintro e1 V9 ⟨rfl, hb⟩
        have HB9 := Lib.hid (below_thn (below_thn HBV0.out HBk.out) hb)
        clear hb x0 x1 t0 t1
        go_wp2_with fail
        go_ret
        exact ⟨rfl, HB9.out⟩

end Go.Proofs.Ytknpdjbokgenpab
