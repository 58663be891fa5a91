/-
  The contract of the specification's Pour.
-/
import Derived.Test.YtjemcmehgkhhlaaCRPour
namespace Go.Proofs.Ytjemcmehgkhhlaa
open Go.RowKit

set_option maxHeartbeats 8000000 in
set_option maxRecDepth 100000 in
theorem rPour_any (a : Option Addr) (n c : Nat) (b : Option Addr) (m d : Nat) (k f t : Int) (A B : Nat → Int) (hn : n ≤ 60) (hna : a = none → n = 0) (hnb : b = none → m = 0) (w : World) (hA : NumsAt w a n A) (hB : NumsAt w b m B) :
    Calls Try.prog 7 #[cansV a n c b m d k, pourV f t] w (PourOut n A m B k f t w) := by
  obtain ⟨W, hW⟩ : ∃ W, ((w.alloc (cansB a n c b m d k)).alloc (pourB f t)).alloc (cansB none 0 0 none 0 0 0) = W := ⟨_, rfl⟩
  have HB0 : Hid (Below w.heap.size w W) := Lib.hid (by rw [← hW]; exact ((below_new _ _).alloc (by simp) _).alloc (by simp; omega) _)
  have HX0 : Hid (W.heap[w.heap.size]? = some (cansB a n c b m d k)) := Lib.hid (by rw [← hW]; exact heap_up (heap_up (heap_top _ _ rfl) _) _)
  have HY0 : Hid (W.heap[w.heap.size + 1]? = some (pourB f t)) := Lib.hid (by rw [← hW]; exact heap_up (heap_top _ _ (by simp)) _)
  have HR0 : Hid (W.heap[w.heap.size + 1 + 1]? = some (cansB none 0 0 none 0 0 0)) := Lib.hid (by rw [← hW]; exact heap_top _ _ (by simp))
  have HSZ : Hid (W.heap.size = w.heap.size + 3) := Lib.hid (by rw [← hW]; simp)
  have HA0 := Lib.hid (hA.below HB0.out)
  have HBB0 := Lib.hid (hB.below HB0.out)
  have HNA := Lib.hid hna
  have HNB := Lib.hid hnb
  clear hA hB hna hnb
  have x0 := heap_cell HX0.out (v := .slice a n c) (j := 0) rfl
  have x1 := heap_cell HX0.out (v := .slice b m d) (j := 1) rfl
  have x2 := heap_cell HX0.out (v := .int .i64 k) (j := 2) rfl
  have y0 := heap_cell HY0.out (v := .int .i64 f) (j := 0) rfl
  have y1 := heap_cell HY0.out (v := .int .i64 t) (j := 1) rfl
  go_enter Try.func7, Try.ntmps7
  go_upto_region 1 with fail
  try rw [hW]
  clear hW
  go_wp2_with fail
  refine (rCans_any a n c b m d k A B hn W HA0.out HBB0.out).mono ?_
  rintro e W1 ⟨rfl, hb⟩
  clear x0 x1 x2 y0 y1
  have HX1 := Lib.hid (heap_lft HX0.out hb)
  have HY1 := Lib.hid (heap_lft HY0.out hb)
  have HR1 := Lib.hid (heap_lft HR0.out hb)
  have HA1 := Lib.hid (HA0.out.below hb)
  have HBB1 := Lib.hid (HBB0.out.below hb)
  have HB1 := Lib.hid (below_thn HB0.out hb)
  clear hb
  obtain ⟨q, hq⟩ : ∃ q, Pure.cans n A m B k = q := ⟨_, rfl⟩
  rw [hq]
  have HQ := Lib.hid hq
  clear hq
  cases q
  · have r0 := heap_cell HR1.out (v := .slice none 0 0) (j := 0) rfl
    have r1 := heap_cell HR1.out (v := .slice none 0 0) (j := 1) rfl
    have r2 := heap_cell HR1.out (v := .int .i64 0) (j := 2) rfl
    have s0 := heap_frozen HR1.out 0
    have s1 := heap_frozen HR1.out 1
    have s2 := heap_frozen HR1.out 2
    obtain ⟨T, hT⟩ : ∃ zz, ((W1.setCell ⟨w.heap.size + 1 + 1, 0, none⟩ (.slice none 0 0)).setCell ⟨w.heap.size + 1 + 1, 1, none⟩ (.slice none 0 0)).setCell ⟨w.heap.size + 1 + 1, 2, none⟩ (.int .i64 0) = zz := ⟨_, rfl⟩
    have hv : T.heap[w.heap.size + 1 + 1]? = some (cansB none 0 0 none 0 0 0) := by rw [← hT]; exact heap_set (heap_set (heap_set HR1.out 0 _) 1 _) 2 _
    have v0 := heap_cell hv (j := 0) rfl
    have v1 := heap_cell hv (j := 1) rfl
    have v2 := heap_cell hv (j := 2) rfl
    have HVB : Hid (Below w.heap.size w T) := Lib.hid (by rw [← hT]; exact ((HB1.out.setCell (by dsimp only; omega) _).setCell (by dsimp only; omega) _).setCell (by dsimp only; omega) _)
    clear hv
    go_wp2_with fail
    try rw [hT]
    exact bodyPost_ret (v := .tuple #[cansV none 0 0 none 0 0 0, .int .i64 80]) (by simp [results, Try.results7, go_sem, v0, v1, v2]; try rfl) rfl ⟨none, 0, 0, none, 0, 0, 0, 80, fun _ => 0, fun _ => 0, rfl, own_nil _ _ _ _ _, own_nil _ _ _ _ _, fun _ _ h => (by cases h), .inl ⟨HQ.out, rfl, rfl, rfl, rfl⟩, HVB.out⟩
  · obtain ⟨⟨h1, h3, hmn⟩, hfine⟩ := Pure.fine_start HQ.out
    subst hmn
    have x0 := heap_cell HX1.out (v := .slice a m c) (j := 0) rfl
    have x1 := heap_cell HX1.out (v := .slice b m d) (j := 1) rfl
    have x2 := heap_cell HX1.out (v := .int .i64 k) (j := 2) rfl
    have y0 := heap_cell HY1.out (v := .int .i64 f) (j := 0) rfl
    have y1 := heap_cell HY1.out (v := .int .i64 t) (j := 1) rfl
    go_wp2_with fail
    refine (rPouring_any a m c b m d k f t W1).mono ?_
    rintro e W2 ⟨rfl, hb⟩
    clear x0 x1 x2 y0 y1
    have HX2 := Lib.hid (heap_lft HX1.out hb)
    have HY2 := Lib.hid (heap_lft HY1.out hb)
    have HR2 := Lib.hid (heap_lft HR1.out hb)
    have HA2 := Lib.hid (HA1.out.below hb)
    have HBB2 := Lib.hid (HBB1.out.below hb)
    have HB2 := Lib.hid (below_thn HB1.out hb)
    clear hb
    by_cases hv : validP m f t
    · rw [decide_eq_true hv]
      have HV := Lib.hid hv
      obtain ⟨f, rfl⟩ := Int.eq_ofNat_of_zero_le hv.1
      obtain ⟨t, rfl⟩ := Int.eq_ofNat_of_zero_le hv.2.2.1
      have hft : f ≤ m ∧ t ≤ m ∧ f ≠ t := by unfold validP at hv; omega
      have HFT := Lib.hid hft
      have HG := Lib.hid hfine.1
      have hbs : NumsAt W2 b m (fun q => startS k m B (q + 1)) := fun q hq => by have h := HBB2.out q hq; rw [show (fun q => startS k m B (q + 1)) q = B q from Pure.start_in hq]; exact h
      have HBS := Lib.hid hbs
      obtain ⟨p, hp⟩ : ∃ p, Pure.rp A (startS k m B) f t = p := ⟨_, rfl⟩
      have hpb := Pure.rp_bound hfine.1 hft.1 hft.2.1 hft.2.2
      rw [hp] at hpb
      have HPB := Lib.hid hpb
      have hcan := Pure.rp_can hfine.1 hft.1 hft.2.1 hft.2.2
      rw [hp] at hcan
      have HCAN := Lib.hid hcan
      have HP := Lib.hid hp
      clear hv hft hfine hbs hp hpb hcan
      have x0 := heap_cell HX2.out (v := .slice a m c) (j := 0) rfl
      have x1 := heap_cell HX2.out (v := .slice b m d) (j := 1) rfl
      have x2 := heap_cell HX2.out (v := .int .i64 k) (j := 2) rfl
      have y0 := heap_cell HY2.out (v := .int .i64 f) (j := 0) rfl
      have y1 := heap_cell HY2.out (v := .int .i64 t) (j := 1) rfl
      go_wp2_with fail
      refine (rPints_any a m c b d A (startS k m B) f t HFT.out.1 HFT.out.2.1 HFT.out.2.2 h3 HG.out W2 HA2.out HBS.out).mono ?_
      rintro e W3 ⟨rfl, hb⟩
      rw [HP.out]
      have HBS3 := Lib.hid (HBS.out.below hb)
      clear x0 x1 x2 y0 y1
      have HX3 := Lib.hid (heap_lft HX2.out hb)
      have HY3 := Lib.hid (heap_lft HY2.out hb)
      have HR3 := Lib.hid (heap_lft HR2.out hb)
      have HA3 := Lib.hid (HA2.out.below hb)
      have HBB3 := Lib.hid (HBB2.out.below hb)
      have HB3 := Lib.hid (below_thn HB2.out hb)
      clear hb
      have x0 := heap_cell HX3.out (v := .slice a m c) (j := 0) rfl
      have x1 := heap_cell HX3.out (v := .slice b m d) (j := 1) rfl
      have x2 := heap_cell HX3.out (v := .int .i64 k) (j := 2) rfl
      have y0 := heap_cell HY3.out (v := .int .i64 f) (j := 0) rfl
      have y1 := heap_cell HY3.out (v := .int .i64 t) (j := 1) rfl
      go_wp2_with fail
      refine (rPoured_any a m c b d A (startS k m B) f t p HFT.out.1 HFT.out.2.1 HFT.out.2.2 h3 HG.out HPB.out HNA.out HNB.out W3 HA3.out HBS3.out).mono ?_
      rintro e W4 ⟨a1, c1, b1, d1, rfl, ho1, ho2, hap, hb⟩
      clear x0 x1 x2 y0 y1
      obtain ⟨W5, hW5⟩ : ∃ zz, W4.alloc (cansB a1 m c1 b1 m d1 (Pure.movedS (startS k m B) f t p 0)) = zz := ⟨_, rfl⟩
      have hb5 : Below W3.heap.size W3 W5 := by rw [← hW5]; exact below_thn hb (below_new _ _)
      have HQ5 : Hid (W5.heap[W4.heap.size]? = some (cansB a1 m c1 b1 m d1 (Pure.movedS (startS k m B) f t p 0))) := Lib.hid (by rw [← hW5]; exact heap_top _ _ rfl)
      have HO1 : Hid (OwnNums W5 W3.heap.size 3 1 a1 m c1 A) := Lib.hid (by rw [← hW5]; exact ho1.below (below_new _ _))
      have HO2 : Hid (OwnNums W5 W3.heap.size 3 1 b1 m d1 (fun q => Pure.movedS (startS k m B) f t p (q + 1))) := Lib.hid (by rw [← hW5]; exact ho2.below (below_new _ _))
      have HAP := Lib.hid hap
      have HS3 : Hid (W.heap.size ≤ W3.heap.size) := Lib.hid (by have h2 := HSZ.out; have h3 := (Array.getElem?_eq_some_iff.1 HR3.out).1; omega)
      clear ho1 ho2 hap hb
      have HX5 := Lib.hid (heap_lft HX3.out hb5)
      have HY5 := Lib.hid (heap_lft HY3.out hb5)
      have HR5 := Lib.hid (heap_lft HR3.out hb5)
      have HA5 := Lib.hid (HA3.out.below hb5)
      have HBB5 := Lib.hid (HBB3.out.below hb5)
      have HB5 := Lib.hid (below_thn HB3.out hb5)
      clear hb5
      have q0 := heap_cell HQ5.out (v := .slice a1 m c1) (j := 0) rfl
      have q1 := heap_cell HQ5.out (v := .slice b1 m d1) (j := 1) rfl
      have q2 := heap_cell HQ5.out (v := .int .i64 (Pure.movedS (startS k m B) f t p 0)) (j := 2) rfl
      by_cases hp0 : p = 0
      · have e1 : (p == 0) = true := by rw [hp0]; rfl
        have HNO : Hid (Pure.canP A (startS k m B) (f : Int).toNat (t : Int).toNat = false) := Lib.hid (by
          cases e : Pure.canP A (startS k m B) (f : Int).toNat (t : Int).toNat with
          | false => rfl
          | true => exact absurd hp0 (HCAN.out.1 e).2.1)
        clear hp0
        have r0 := heap_cell HR5.out (v := .slice none 0 0) (j := 0) rfl
        have r1 := heap_cell HR5.out (v := .slice none 0 0) (j := 1) rfl
        have r2 := heap_cell HR5.out (v := .int .i64 0) (j := 2) rfl
        have s0 := heap_frozen HR5.out 0
        have s1 := heap_frozen HR5.out 1
        have s2 := heap_frozen HR5.out 2
        obtain ⟨T, hT⟩ : ∃ zz, ((W5.setCell ⟨w.heap.size + 1 + 1, 0, none⟩ (.slice none 0 0)).setCell ⟨w.heap.size + 1 + 1, 1, none⟩ (.slice none 0 0)).setCell ⟨w.heap.size + 1 + 1, 2, none⟩ (.int .i64 0) = zz := ⟨_, rfl⟩
        have hv : T.heap[w.heap.size + 1 + 1]? = some (cansB none 0 0 none 0 0 0) := by rw [← hT]; exact heap_set (heap_set (heap_set HR5.out 0 _) 1 _) 2 _
        have v0 := heap_cell hv (j := 0) rfl
        have v1 := heap_cell hv (j := 1) rfl
        have v2 := heap_cell hv (j := 2) rfl
        have HVB : Hid (Below w.heap.size w T) := Lib.hid (by rw [← hT]; exact ((HB5.out.setCell (by dsimp only; omega) _).setCell (by dsimp only; omega) _).setCell (by dsimp only; omega) _)
        clear hv
        go_wp2_with fail
        try rw [hT]
        exact bodyPost_ret (v := .tuple #[cansV none 0 0 none 0 0 0, .int .i64 6]) (by simp [results, Try.results7, go_sem, v0, v1, v2]; try rfl) rfl ⟨none, 0, 0, none, 0, 0, 0, 6, fun _ => 0, fun _ => 0, rfl, own_nil _ _ _ _ _, own_nil _ _ _ _ _, fun _ _ h => (by cases h), .inr (.inl ⟨HQ.out, .inr ⟨HV.out, HNO.out, rfl⟩, rfl, rfl, rfl⟩), HVB.out⟩
      · have e1 : (p == 0) = false := beq_eq_false_iff_ne.2 hp0
        by_cases hst : 600 < Pure.movedS (startS k m B) f t p 0
        · have HNO : Hid (Pure.canP A (startS k m B) (f : Int).toNat (t : Int).toNat = false) := Lib.hid (by
            cases e : Pure.canP A (startS k m B) (f : Int).toNat (t : Int).toNat with
            | false => rfl
            | true => exact absurd (HCAN.out.1 e).2.2 (by omega))
          have r0 := heap_cell HR5.out (v := .slice none 0 0) (j := 0) rfl
          have r1 := heap_cell HR5.out (v := .slice none 0 0) (j := 1) rfl
          have r2 := heap_cell HR5.out (v := .int .i64 0) (j := 2) rfl
          have s0 := heap_frozen HR5.out 0
          have s1 := heap_frozen HR5.out 1
          have s2 := heap_frozen HR5.out 2
          obtain ⟨T, hT⟩ : ∃ zz, ((W5.setCell ⟨w.heap.size + 1 + 1, 0, none⟩ (.slice none 0 0)).setCell ⟨w.heap.size + 1 + 1, 1, none⟩ (.slice none 0 0)).setCell ⟨w.heap.size + 1 + 1, 2, none⟩ (.int .i64 0) = zz := ⟨_, rfl⟩
          have hv : T.heap[w.heap.size + 1 + 1]? = some (cansB none 0 0 none 0 0 0) := by rw [← hT]; exact heap_set (heap_set (heap_set HR5.out 0 _) 1 _) 2 _
          have v0 := heap_cell hv (j := 0) rfl
          have v1 := heap_cell hv (j := 1) rfl
          have v2 := heap_cell hv (j := 2) rfl
          have HVB : Hid (Below w.heap.size w T) := Lib.hid (by rw [← hT]; exact ((HB5.out.setCell (by dsimp only; omega) _).setCell (by dsimp only; omega) _).setCell (by dsimp only; omega) _)
          clear hv
          go_wp2_with fail
          try rw [hT]
          exact bodyPost_ret (v := .tuple #[cansV none 0 0 none 0 0 0, .int .i64 6]) (by simp [results, Try.results7, go_sem, v0, v1, v2]; try rfl) rfl ⟨none, 0, 0, none, 0, 0, 0, 6, fun _ => 0, fun _ => 0, rfl, own_nil _ _ _ _ _, own_nil _ _ _ _ _, fun _ _ h => (by cases h), .inr (.inl ⟨HQ.out, .inr ⟨HV.out, HNO.out, rfl⟩, rfl, rfl, rfl⟩), HVB.out⟩
        · have hle : Pure.movedS (startS k m B) f t p 0 ≤ 600 := by omega
          have hyes := HCAN.out.2 hp0 hle
          have hpe := (HCAN.out.1 hyes).1
          have HYES : Hid (Pure.canP A (startS k m B) (f : Int).toNat (t : Int).toNat = true) := Lib.hid hyes
          have HPE : Hid (p = Pure.amt A (startS k m B) (f : Int).toNat (t : Int).toNat) := Lib.hid hpe
          clear hyes hpe
          have r0 := heap_cell HR5.out (v := .slice none 0 0) (j := 0) rfl
          have r1 := heap_cell HR5.out (v := .slice none 0 0) (j := 1) rfl
          have r2 := heap_cell HR5.out (v := .int .i64 0) (j := 2) rfl
          have s0 := heap_frozen HR5.out 0
          have s1 := heap_frozen HR5.out 1
          have s2 := heap_frozen HR5.out 2
          obtain ⟨T, hT⟩ : ∃ zz, ((W5.setCell ⟨w.heap.size + 1 + 1, 0, none⟩ (.slice a1 m c1)).setCell ⟨w.heap.size + 1 + 1, 1, none⟩ (.slice b1 m d1)).setCell ⟨w.heap.size + 1 + 1, 2, none⟩ (.int .i64 (Pure.movedS (startS k m B) f t p 0)) = zz := ⟨_, rfl⟩
          have hv : T.heap[w.heap.size + 1 + 1]? = some (cansB a1 m c1 b1 m d1 (Pure.movedS (startS k m B) f t p 0)) := by rw [← hT]; exact heap_set (heap_set (heap_set HR5.out 0 _) 1 _) 2 _
          have v0 := heap_cell hv (j := 0) rfl
          have v1 := heap_cell hv (j := 1) rfl
          have v2 := heap_cell hv (j := 2) rfl
          have HVB : Hid (Below w.heap.size w T) := Lib.hid (by rw [← hT]; exact ((HB5.out.setCell (by dsimp only; omega) _).setCell (by dsimp only; omega) _).setCell (by dsimp only; omega) _)
          have hs3 := HS3.out
          have hsw := HSZ.out
          have HV1 : Hid (OwnNums T W3.heap.size 3 1 a1 m c1 A) := Lib.hid (by rw [← hT]; exact ((HO1.out.set (by dsimp only; omega) _).set (by dsimp only; omega) _).set (by dsimp only; omega) _)
          have HV2 : Hid (OwnNums T W3.heap.size 3 1 b1 m d1 (fun q => Pure.movedS (startS k m B) f t p (q + 1))) := Lib.hid (by rw [← hT]; exact ((HO2.out.set (by dsimp only; omega) _).set (by dsimp only; omega) _).set (by dsimp only; omega) _)
          clear hv hs3 hsw
          go_wp2_with fail
          try rw [hT]
          have hs3 := HS3.out
          have hsw := HSZ.out
          refine bodyPost_ret (v := .tuple #[cansV a1 m c1 b1 m d1 (Pure.movedS (startS k m B) f t p 0), .int .i64 0]) (by simp [results, Try.results7, go_sem, v0, v1, v2]; try rfl) rfl ⟨a1, m, c1, b1, m, d1, _, 0, A, _, rfl, OwnNums.base HV1.out (by omega), OwnNums.base HV2.out (by omega), HAP.out, .inr (.inr ⟨HQ.out, HV.out, HYES.out, rfl, rfl, fun _ _ => rfl, fun q hq => ?_, ?_, rfl⟩), HVB.out⟩
          · dsimp only; rw [HPE.out]; rfl
          · rw [HPE.out]; rfl
    · rw [decide_eq_false hv]
      have HV := Lib.hid hv
      clear hv
      have r0 := heap_cell HR2.out (v := .slice none 0 0) (j := 0) rfl
      have r1 := heap_cell HR2.out (v := .slice none 0 0) (j := 1) rfl
      have r2 := heap_cell HR2.out (v := .int .i64 0) (j := 2) rfl
      have s0 := heap_frozen HR2.out 0
      have s1 := heap_frozen HR2.out 1
      have s2 := heap_frozen HR2.out 2
      obtain ⟨T, hT⟩ : ∃ zz, ((W2.setCell ⟨w.heap.size + 1 + 1, 0, none⟩ (.slice none 0 0)).setCell ⟨w.heap.size + 1 + 1, 1, none⟩ (.slice none 0 0)).setCell ⟨w.heap.size + 1 + 1, 2, none⟩ (.int .i64 0) = zz := ⟨_, rfl⟩
      have hv : T.heap[w.heap.size + 1 + 1]? = some (cansB none 0 0 none 0 0 0) := by rw [← hT]; exact heap_set (heap_set (heap_set HR2.out 0 _) 1 _) 2 _
      have v0 := heap_cell hv (j := 0) rfl
      have v1 := heap_cell hv (j := 1) rfl
      have v2 := heap_cell hv (j := 2) rfl
      have HVB : Hid (Below w.heap.size w T) := Lib.hid (by rw [← hT]; exact ((HB2.out.setCell (by dsimp only; omega) _).setCell (by dsimp only; omega) _).setCell (by dsimp only; omega) _)
      clear hv
      go_wp2_with fail
      try rw [hT]
      exact bodyPost_ret (v := .tuple #[cansV none 0 0 none 0 0 0, .int .i64 81]) (by simp [results, Try.results7, go_sem, v0, v1, v2]; try rfl) rfl ⟨none, 0, 0, none, 0, 0, 0, 81, fun _ => 0, fun _ => 0, rfl, own_nil _ _ _ _ _, own_nil _ _ _ _ _, fun _ _ h => (by cases h), .inr (.inl ⟨HQ.out, .inl ⟨HV.out, rfl⟩, rfl, rfl, rfl⟩), HVB.out⟩
end Go.Proofs.Ytjemcmehgkhhlaa
