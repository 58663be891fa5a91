/-
  The contract of the specification's Lead.
-/
import Derived.Test.YtmdmfiddabmaeaaQTwin
namespace Go.Proofs.Ytmdmfiddabmaeaa
open Go.RowKit

set_option maxHeartbeats 8000000 in
set_option maxRecDepth 100000 in
theorem rLead_any (a : Option Addr) (n c : Nat) (b : Option Addr) (m d : Nat) (F G : Nat → Int) (id tg : Int) (hn : n ≤ 60) (hm : m ≤ 60) (hna : a = none → n = 0) (hnb : b = none → m = 0) (w : World) (hF : NumsAt w a (n * 4) F) (hG : NumsAt w b (m * 5) G) :
    Calls Try.prog 11 #[pressV a n c b m d, .int .i64 id, .int .i64 tg] w (LeadOut n F m G id tg w) := by
  obtain ⟨W, hW⟩ : ∃ W, (w.alloc (pressB a n c b m d)).alloc (pressB none 0 0 none 0 0) = W := ⟨_, rfl⟩
  have HB : Hid (Below w.heap.size w W) := Lib.hid (by rw [← hW]; exact (below_new _ _).alloc (by simp) _)
  have HX : Hid (W.heap[w.heap.size]? = some (pressB a n c b m d)) := Lib.hid (by rw [← hW]; exact heap_up (heap_top _ _ rfl) _)
  have HY : Hid (W.heap[w.heap.size + 1]? = some (pressB none 0 0 none 0 0)) := Lib.hid (by rw [← hW]; exact heap_top _ _ (by simp))
  have HSZ : Hid (W.heap.size = w.heap.size + 2) := Lib.hid (by rw [← hW]; simp)
  have HF := Lib.hid (hF.below HB.out)
  have HG := Lib.hid (hG.below HB.out)
  have HN := Lib.hid (And.intro hna hnb)
  clear hF hG hna hnb
  have x0 := heap_cell HX.out (j := 0) rfl
  have x1 := heap_cell HX.out (j := 1) rfl
  go_enter Try.func11, Try.ntmps11
  go_upto_region 1 with fail
  try rw [hW]
  clear hW
  go_wp2_with fail
  refine (rPress_any a n c b m d F G hn hm _ HF.out HG.out).mono ?_
  rintro e W1 ⟨rfl, hb⟩
  clear x0 x1
  have HX1 := Lib.hid (heap_lft HX.out hb)
  have HY1 := Lib.hid (heap_lft HY.out hb)
  have HB1 := Lib.hid (below_thn HB.out hb)
  have HF1 := Lib.hid (HF.out.below hb)
  have HG1 := Lib.hid (HG.out.below hb)
  have HS1 : Hid (w.heap.size + 2 ≤ W1.heap.size) := Lib.hid (by have := hb.size; have := HSZ.out; omega)
  clear hb
  obtain ⟨r, hr⟩ : ∃ r, Pure.press n F m G = r := ⟨_, rfl⟩
  rw [hr]
  have HP := Lib.hid hr
  clear hr
  cases r
  · have y0 := heap_cell HY1.out (j := 0) rfl
    have y1 := heap_cell HY1.out (j := 1) rfl
    have f0 := heap_frozen HY1.out 0
    have f1 := heap_frozen HY1.out 1
    go_wp2_with fail
    refine bodyPost_ret (v := .tuple #[pressV none 0 0 none 0 0, .int .i64 20]) (by simp [results, Try.results11, go_sem, y0, y1]; try rfl) rfl ⟨none, 0, 0, none, 0, 0, 20, rfl, ?_, .inl ⟨by decide, rfl, rfl, rfl, rfl, rfl, rfl, .inl ⟨HP.out, rfl⟩⟩⟩
    repeat (first | with_reducible exact HB1.out | with_reducible refine Below.setCell ?_ (by first | (simp; done) | (dsimp only; omega)) _)
  · have hfew := Pure.press_few HP.out
    have x0 := heap_cell HX1.out (j := 0) rfl
    have x1 := heap_cell HX1.out (j := 1) rfl
    go_wp2_with fail
    refine (rPressing_any a n c b m d F id hn _ HF1.out).mono ?_
    rintro e W2 ⟨rfl, hb⟩
    clear x0 x1
    have HX2 := Lib.hid (heap_lft HX1.out hb)
    have HY2 := Lib.hid (heap_lft HY1.out hb)
    have HB2 := Lib.hid (below_thn HB1.out hb)
    have HF2 := Lib.hid (HF1.out.below hb)
    have HG2 := Lib.hid (HG1.out.below hb)
    have HS2 : Hid (w.heap.size + 2 ≤ W2.heap.size) := Lib.hid (by have := hb.size; have := HS1.out; omega)
    clear hb
    obtain ⟨v, hv⟩ : ∃ v, Pure.index n F id = v := ⟨_, rfl⟩
    rw [hv]
    have HV := Lib.hid hv
    clear hv
    by_cases hlt : v < 0
    · have y0 := heap_cell HY2.out (j := 0) rfl
      have y1 := heap_cell HY2.out (j := 1) rfl
      have f0 := heap_frozen HY2.out 0
      have f1 := heap_frozen HY2.out 1
      go_wp2_with fail
      refine bodyPost_ret (v := .tuple #[pressV none 0 0 none 0 0, .int .i64 6]) (by simp [results, Try.results11, go_sem, y0, y1]; try rfl) rfl ⟨none, 0, 0, none, 0, 0, 6, rfl, ?_, .inl ⟨by decide, rfl, rfl, rfl, rfl, rfl, rfl, .inr (.inl ⟨HP.out, by rw [HV.out]; exact hlt, rfl⟩)⟩⟩
      repeat (first | with_reducible exact HB2.out | with_reducible refine Below.setCell ?_ (by first | (simp; done) | (dsimp only; omega)) _)
    · obtain ⟨i, rfl⟩ : ∃ i : Nat, v = i := ⟨v.toNat, by omega⟩
      have hin : i < n := by have := Pure.firstAt_lt (fun j => F (j * 4) == id) n; have h9 := HV.out; unfold Pure.index at h9; omega
      clear hlt
      have nlt : ¬ (i : Int) < 0 := by omega
      have x0 := heap_cell HX2.out (j := 0) rfl
      have x1 := heap_cell HX2.out (j := 1) rfl
      go_wp2_with fail
      refine (twin_any a n c b m d F G hn hm HN.out.1 HN.out.2 _ HF2.out HG2.out).mono ?_
      rintro e W3 ⟨a1, c1, a2, c2, rfl, ho1, ho2, hb⟩
      obtain ⟨g, arr, rfl, hg, hga⟩ := ho1.at (by omega)
      have HAP : Hid (Apart a2 (some ⟨g, 0, none⟩)) := Lib.hid (ho2.diff ho1 (by decide))
      have HY3 := Lib.hid (heap_lft HY2.out hb)
      have HB3 := Lib.hid (below_thn HB2.out hb)
      have HO1 := Lib.hid ho1
      have HO2 := Lib.hid ho2
      have HGL : Hid (W2.heap.size ≤ g) := Lib.hid hg
      clear ho1 ho2 hb x0 x1 hg hga
      go_upto_region 7 with fail
      obtain ⟨V, hV⟩ : ∃ V, W3.alloc (pressB (some ⟨g, 0, none⟩) n c1 a2 m c2) = V := ⟨_, rfl⟩
      have hbv : Below W3.heap.size W3 V := by rw [← hV]; exact below_new _ _
      have HQV : Hid (V.heap[W3.heap.size]? = some (pressB (some ⟨g, 0, none⟩) n c1 a2 m c2)) := Lib.hid (by rw [← hV]; exact heap_top _ _ rfl)
      have HYV := Lib.hid (heap_lft HY3.out hbv)
      have HBV := Lib.hid (below_thn HB3.out hbv)
      have HO1V := Lib.hid (HO1.out.below hbv)
      have HO2V := Lib.hid (HO2.out.below hbv)
      have HGS : Hid (g < W3.heap.size) := Lib.hid (HO1.out.lt _ rfl).2
      try rw [hV]
      clear hV hbv
      have v0 := heap_cell HQV.out (j := 0) rfl
      have n1 : (i : Int) < n := by omega
      have c3 := nums_row HO1V.out.nums (show i * 4 + 3 < n * 4 by omega)
      obtain ⟨g', arr, he, _, hga⟩ := HO1V.out.at (show 0 < n by omega)
      cases he
      rw [show 0 + i * 4 + 3 = i * 4 + 3 by omega] at c3
      have f4 := heap_frozen hga (i * 4 + 3)
      clear hga
      go_upto_region 8 with fail
      clear v0 c3 f4
      obtain ⟨M, hM⟩ : ∃ M, V.setCell ⟨g, i * 4 + 3, none⟩ (.int .i64 tg) = M := ⟨_, rfl⟩
      have hs2 := HS2.out
      have hgl := HGL.out
      have hgs := HGS.out
      have HQM : Hid (M.heap[W3.heap.size]? = some (pressB (some ⟨g, 0, none⟩) n c1 a2 m c2)) := Lib.hid (by rw [← hM]; exact (setCell_other (by dsimp only; omega)).trans HQV.out)
      have HYM : Hid (M.heap[w.heap.size + 1]? = some (pressB none 0 0 none 0 0)) := Lib.hid (by rw [← hM]; exact (setCell_other (by dsimp only; omega)).trans HYV.out)
      have HBM : Hid (Below w.heap.size w M) := Lib.hid (by rw [← hM]; exact HBV.out.setCell (by dsimp only; omega) _)
      have HO1M : Hid (OwnNums M W2.heap.size 45 4 (some ⟨g, 0, none⟩) n c1 (Pure.toF F i tg)) := Lib.hid (by rw [← hM]; exact HO1V.out.put (by omega) rfl)
      have HO2M : Hid (OwnNums M W2.heap.size 29 5 a2 m c2 G) := Lib.hid (HO2V.out.kept (fun x hx => by rw [← hM]; exact setCell_other (HAP.out x ⟨g, 0, none⟩ hx rfl)))
      try rw [hM]
      clear hM hs2 hgl hgs
      have q0 := heap_cell HQM.out (j := 0) rfl
      have q1 := heap_cell HQM.out (j := 1) rfl
      go_wp2_with fail
      refine (rPress_any (some ⟨g, 0, none⟩) n c1 a2 m c2 (Pure.toF F i tg) G (by omega) (by omega) _ HO1M.out.nums HO2M.out.nums).mono ?_
      rintro e N ⟨rfl, hb⟩
      have HYN := Lib.hid (heap_lft HYM.out hb)
      have HQN := Lib.hid (heap_lft HQM.out hb)
      have HBN := Lib.hid (below_thn HBM.out hb)
      have HO1N := Lib.hid (HO1M.out.below hb)
      have HO2N := Lib.hid (HO2M.out.below hb)
      clear hb q0 q1
      obtain ⟨r, hr⟩ : ∃ r, Pure.press n (Pure.toF F i tg) m G = r := ⟨_, rfl⟩
      rw [hr]
      have HR := Lib.hid hr
      clear hr
      have hs2 := HS2.out
      cases r
      · have y0 := heap_cell HYN.out (j := 0) rfl
        have y1 := heap_cell HYN.out (j := 1) rfl
        have f0 := heap_frozen HYN.out 0
        have f1 := heap_frozen HYN.out 1
        go_wp2_with fail
        refine bodyPost_ret (v := .tuple #[pressV none 0 0 none 0 0, .int .i64 22]) (by simp [results, Try.results11, go_sem, y0, y1]; try rfl) rfl ⟨none, 0, 0, none, 0, 0, 22, rfl, ?_, .inl ⟨by decide, rfl, rfl, rfl, rfl, rfl, rfl, .inr (.inr ⟨HP.out, rfl, i, HV.out, HR.out⟩)⟩⟩
        repeat (first | with_reducible exact HBN.out | with_reducible refine Below.setCell ?_ (by first | (simp; done) | (dsimp only; omega)) _)
      · have y0 := heap_cell HYN.out (j := 0) rfl
        have y1 := heap_cell HYN.out (j := 1) rfl
        have f0 := heap_frozen HYN.out 0
        have f1 := heap_frozen HYN.out 1
        have q0 := heap_cell HQN.out (j := 0) rfl
        have q1 := heap_cell HQN.out (j := 1) rfl
        go_wp2_with fail
        refine bodyPost_ret (v := .tuple #[pressV (some ⟨g, 0, none⟩) n c1 a2 m c2, .int .i64 0]) (by simp [results, Try.results11, go_sem, y0, y1]; try rfl) rfl ⟨some ⟨g, 0, none⟩, n, c1, a2, m, c2, 0, rfl, ?_, .inr ⟨rfl, rfl, rfl, HP.out, i, HV.out, HR.out, ?_, ?_⟩⟩
        · repeat (first | with_reducible exact HBN.out | with_reducible refine Below.setCell ?_ (by first | (simp; done) | (dsimp only; omega)) _)
        · refine OwnNums.base (base := W2.heap.size) ?_ (by omega)
          repeat (first | with_reducible exact HO1N.out | with_reducible refine OwnNums.set ?_ (by first | (simp; omega) | (dsimp only; omega)) _)
        · refine OwnNums.base (base := W2.heap.size) ?_ (by omega)
          repeat (first | with_reducible exact HO2N.out | with_reducible refine OwnNums.set ?_ (by first | (simp; omega) | (dsimp only; omega)) _)

end Go.Proofs.Ytmdmfiddabmaeaa
