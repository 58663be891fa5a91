/-
  The contract of Lead.
-/
import Derived.Test.YtmdmfiddabmaeaaQAt
namespace Go.Proofs.Ytmdmfiddabmaeaa
open Go.RowKit

namespace Pure
/-- The numbers of pressings of which one goes elsewhere. -/
def toF (F : Nat → Int) (i : Nat) (tg : Int) : Nat → Int := fun q => if q = i * 4 + 3 then tg else F q
end Pure
/-- A number of an own row is written. -/
theorem OwnNums.put {w : World} {base : Nat} {t : TypeId} {k : Nat} {g len cap : Nat} {F F' : Nat → Int} (h : OwnNums w base t k (some ⟨g, 0, none⟩) len cap F) {i : Nat} {z : Int} (hi : i < len * k) (hF : F' = fun q => if q = i then z else F q) : OwnNums (w.setCell ⟨g, i, none⟩ (.int .i64 z)) base t k (some ⟨g, 0, none⟩) len cap F' := by
  obtain ⟨h0, ⟨h1, _⟩ | ⟨g', cap', cur, he, hbase, hg, h2, h3, h4, h5⟩⟩ := h
  · cases h1
  · simp only [Value.slice.injEq, Option.some.injEq, Addr.mk.injEq] at he
    obtain ⟨⟨rfl, _⟩, _, rfl⟩ := he
    refine ⟨numsCells_length _ _, .inr ⟨g, cap, cur.setIfInBounds i (.int .i64 z), rfl, hbase, heap_set hg i _, h2, h3, by simpa using h4, ?_⟩⟩
    apply List.ext_getElem?
    intro j
    by_cases hj : j < len * k
    · rw [List.getElem?_take_of_lt hj, numsCells_get hj]
      have h6 := numsCells_get (F := F) hj
      rw [← h5, List.getElem?_take_of_lt hj] at h6
      have hcs : i < cur.size := by rw [h4]; exact Nat.lt_of_lt_of_le hi (Nat.mul_le_mul_right _ h2)
      subst hF
      by_cases e : j = i
      · subst e
        simp [hcs]
      · simp only [Array.toList_setIfInBounds, e, if_false]
        rw [List.getElem?_set_ne (Ne.symm e)]
        exact h6
    · rw [List.getElem?_eq_none (by simp; omega), List.getElem?_eq_none (by rw [numsCells_length]; omega)]
theorem OwnNums.at {w : World} {base : Nat} {t : TypeId} {k : Nat} {a : Option Addr} {len cap : Nat} {F : Nat → Int} (h : OwnNums w base t k a len cap F) (h0 : 0 < len) : ∃ g arr, a = some ⟨g, 0, none⟩ ∧ base ≤ g ∧ w.heap[g]? = some (.cells arr t) := by
  obtain ⟨_, ⟨_, h1⟩ | ⟨g', cap', cur, he, hbase, hg, _⟩⟩ := h
  · omega
  · simp only [Value.slice.injEq] at he
    obtain ⟨rfl, _⟩ := he
    exact ⟨g', cur, rfl, hbase, hg⟩
/-- What Lead gives. -/
def LeadOut (n : Nat) (F : Nat → Int) (m : Nat) (G : Nat → Int) (id tg : Int) (w : World) (e : Ending) (w' : World) : Prop :=
  ∃ a1 n1 c1 a2 n2 c2 q, e = .returned (.tuple #[pressV a1 n1 c1 a2 n2 c2, .int .i64 q]) ∧ Below w.heap.size w w' ∧
    ((q ≠ 0 ∧ a1 = none ∧ n1 = 0 ∧ c1 = 0 ∧ a2 = none ∧ n2 = 0 ∧ c2 = 0 ∧
        (Pure.press n F m G = false ∧ q = 20 ∨ Pure.press n F m G = true ∧ Pure.index n F id < 0 ∧ q = 6 ∨
         Pure.press n F m G = true ∧ q = 22 ∧ ∃ i : Nat, Pure.index n F id = i ∧ Pure.press n (Pure.toF F i tg) m G = false)) ∨
     (q = 0 ∧ n1 = n ∧ n2 = m ∧ Pure.press n F m G = true ∧ ∃ i : Nat, Pure.index n F id = i ∧ Pure.press n (Pure.toF F i tg) m G = true ∧
        OwnNums w' w.heap.size 45 4 a1 n c1 (Pure.toF F i tg) ∧ OwnNums w' w.heap.size 29 5 a2 m c2 G))

set_option maxHeartbeats 8000000 in
set_option maxRecDepth 100000 in
theorem lead_any (a : Option Addr) (n c : Nat) (b : Option Addr) (m d : Nat) (F G : Nat → Int) (id tg : Int) (hn : n ≤ 60) (hm : m ≤ 60) (hnil : a = none → n = 0 ∧ c = 0) (wG : ∀ i, i < m → (Lit.int .i64 (G (i * 5))).wf = true) (w : World) (hF : NumsAt w a (n * 4) F) (hG : NumsAt w b (m * 5) G) :
    Calls Try.prog 10 #[pressV a n c b m d, .int .i64 id, .int .i64 tg] w (LeadOut n F m G id tg w) := by
  obtain ⟨W, hW⟩ : ∃ W, (w.alloc (pressB a n c b m d)).alloc (pressB none 0 0 none 0 0) = W := ⟨_, rfl⟩
  have HB : Hid (Below w.heap.size w W) := Lib.hid (by rw [← hW]; exact (below_new _ _).alloc (by simp) _)
  have HX : Hid (W.heap[w.heap.size]? = some (pressB a n c b m d)) := Lib.hid (by rw [← hW]; exact heap_up (heap_top _ _ rfl) _)
  have HY : Hid (W.heap[w.heap.size + 1]? = some (pressB none 0 0 none 0 0)) := Lib.hid (by rw [← hW]; exact heap_top _ _ (by simp))
  have HSZ : Hid (W.heap.size = w.heap.size + 2) := Lib.hid (by rw [← hW]; simp)
  have HF := Lib.hid (hF.below HB.out)
  have HG := Lib.hid (hG.below HB.out)
  have HN := Lib.hid hnil
  have HWG := Lib.hid wG
  clear hF hG hnil wG
  have x0 := heap_cell HX.out (j := 0) rfl
  have x1 := heap_cell HX.out (j := 1) rfl
  go_enter Try.func10, Try.ntmps10
  go_upto_region 1 with fail
  try rw [hW]
  clear hW
  go_wp2_with fail
  refine (at_any a n c b m d F G id hn hm _ HF.out HG.out).mono ?_
  rintro e W1 ⟨cs, i, q, rfl, hs, h1, hc, hb⟩
  have HC := Lib.hid hc
  have HX1 := Lib.hid (heap_lft HX.out hb)
  have HY1 := Lib.hid (heap_lft HY.out hb)
  have HB1 := Lib.hid (below_thn HB.out hb)
  have HF1 := Lib.hid (HF.out.below hb)
  have HG1 := Lib.hid (HG.out.below hb)
  have HS1 : Hid (w.heap.size + 2 ≤ W1.heap.size) := Lib.hid (by have := hb.size; have := HSZ.out; omega)
  clear hb hc x0 x1
  have hzs : (Try.zeroCells64).size = 152 := by rw [mill_zeroCells]; exact (mill_zero none 0 0 none 0 0).size
  have HT : Hid (∀ M : World, M = W1.alloc (millB Try.zeroCells64) → M.heap[W1.heap.size]? = some (millB Try.zeroCells64)) := Lib.hid (fun M h => by rw [h]; exact heap_top _ _ rfl)
  go_upto_region 2 with (first | (with_reducible refine wpList_mill_store rfl _ _ rfl W1.heap.size _ _ rfl rfl (HT.out _ rfl) hzs hs h1 ?_; intro W2 hy2 ho2 hb2) | go_in)
  have HB12 : Hid (Below W1.heap.size W1 W2) := Lib.hid (hb2 _ _ (Nat.le_refl _) (below_new _ _))
  clear hy2 ho2 hb2 hzs HT hs h1
  have HX2 := Lib.hid (heap_lft HX1.out HB12.out)
  have HY2 := Lib.hid (heap_lft HY1.out HB12.out)
  have HB2 := Lib.hid (below_thn HB1.out HB12.out)
  have HF2 := Lib.hid (HF1.out.below HB12.out)
  have HG2 := Lib.hid (HG1.out.below HB12.out)
  have HS2 : Hid (w.heap.size + 2 ≤ W2.heap.size) := Lib.hid (by have := HB12.out.size; have := HS1.out; omega)
  rcases HC.out with ⟨hp, rfl⟩ | ⟨hp, hlt, rfl⟩ | ⟨hp, hge, rfl, rfl⟩
  · have y0 := heap_cell HY2.out (j := 0) rfl
    have y1 := heap_cell HY2.out (j := 1) rfl
    have f0 := heap_frozen HY2.out 0
    have f1 := heap_frozen HY2.out 1
    go_wp2_with fail
    refine bodyPost_ret (v := .tuple #[pressV none 0 0 none 0 0, .int .i64 20]) (by simp [results, Try.results10, go_sem, y0, y1]; try rfl) rfl ⟨none, 0, 0, none, 0, 0, 20, rfl, ?_, .inl ⟨by decide, rfl, rfl, rfl, rfl, rfl, rfl, .inl ⟨hp, rfl⟩⟩⟩
    repeat (first | with_reducible exact HB2.out | with_reducible refine Below.setCell ?_ (by first | (simp; done) | (dsimp only; omega)) _)
  · have y0 := heap_cell HY2.out (j := 0) rfl
    have y1 := heap_cell HY2.out (j := 1) rfl
    have f0 := heap_frozen HY2.out 0
    have f1 := heap_frozen HY2.out 1
    go_wp2_with fail
    refine bodyPost_ret (v := .tuple #[pressV none 0 0 none 0 0, .int .i64 6]) (by simp [results, Try.results10, go_sem, y0, y1]; try rfl) rfl ⟨none, 0, 0, none, 0, 0, 6, rfl, ?_, .inl ⟨by decide, rfl, rfl, rfl, rfl, rfl, rfl, .inr (.inl ⟨hp, hlt, rfl⟩)⟩⟩
    repeat (first | with_reducible exact HB2.out | with_reducible refine Below.setCell ?_ (by first | (simp; done) | (dsimp only; omega)) _)
  · have HP := Lib.hid hp
    clear hp HC
    have hfew := Pure.press_few HP.out
    obtain ⟨i, hi⟩ : ∃ i : Nat, Pure.index n F id = i := ⟨(Pure.index n F id).toNat, by omega⟩
    have hin : i < n := by have := Pure.firstAt_lt (fun j => F (j * 4) == id) n; unfold Pure.index at hi; omega
    rw [hi]
    have HI := Lib.hid hi
    clear hi hge
    have x0 := heap_cell HX2.out (j := 0) rfl
    have x1 := heap_cell HX2.out (j := 1) rfl
    go_wp2_with fail
    refine (copy_any a n c b m d F G (by omega) hm HN.out HWG.out _ HF2.out HG2.out).mono ?_
    rintro e W3 ⟨a1, c1, a2, c2, rfl, ho1, ho2, hap, hb⟩
    obtain ⟨g, arr, rfl, hg, hga⟩ := ho1.at (by omega)
    have HAP := Lib.hid hap
    have HY3 := Lib.hid (heap_lft HY2.out hb)
    have HB3 := Lib.hid (below_thn HB2.out hb)
    have HO1 := Lib.hid ho1
    have HO2 := Lib.hid ho2
    have HGL : Hid (W2.heap.size ≤ g) := Lib.hid hg
    clear ho1 ho2 hap hb x0 x1 hg hga
    go_upto_region 5 with fail
    obtain ⟨V, hV⟩ : ∃ V, W3.alloc (pressB (some ⟨g, 0, none⟩) n c1 a2 m c2) = V := ⟨_, rfl⟩
    have hbv : Below W3.heap.size W3 V := by rw [← hV]; exact below_new _ _
    have HQV : Hid (V.heap[W3.heap.size]? = some (pressB (some ⟨g, 0, none⟩) n c1 a2 m c2)) := Lib.hid (by rw [← hV]; exact heap_top _ _ rfl)
    have HYV := Lib.hid (heap_lft HY3.out hbv)
    have HBV := Lib.hid (below_thn HB3.out hbv)
    have HO1V := Lib.hid (HO1.out.below hbv)
    have HO2V := Lib.hid (HO2.out.below hbv)
    have HGS : Hid (g < W3.heap.size) := Lib.hid (HO1.out.lt _ rfl).2
    try rw [hV]
    clear hV hbv
    have v0 := heap_cell HQV.out (j := 0) rfl
    have n1 : (i : Int) < n := by omega
    have c3 := nums_row HO1V.out.nums (show i * 4 + 3 < n * 4 by omega)
    obtain ⟨g', arr, he, _, hga⟩ := HO1V.out.at (show 0 < n by omega)
    cases he
    rw [show 0 + i * 4 + 3 = i * 4 + 3 by omega] at c3
    have f4 := heap_frozen hga (i * 4 + 3)
    clear hga
    go_upto_region 6 with fail
    clear v0 c3 f4
    obtain ⟨M, hM⟩ : ∃ M, V.setCell ⟨g, i * 4 + 3, none⟩ (.int .i64 tg) = M := ⟨_, rfl⟩
    have hs2 := HS2.out
    have hgl := HGL.out
    have hgs := HGS.out
    have HQM : Hid (M.heap[W3.heap.size]? = some (pressB (some ⟨g, 0, none⟩) n c1 a2 m c2)) := Lib.hid (by rw [← hM]; exact (setCell_other (by dsimp only; omega)).trans HQV.out)
    have HYM : Hid (M.heap[w.heap.size + 1]? = some (pressB none 0 0 none 0 0)) := Lib.hid (by rw [← hM]; exact (setCell_other (by dsimp only; omega)).trans HYV.out)
    have HBM : Hid (Below w.heap.size w M) := Lib.hid (by rw [← hM]; exact HBV.out.setCell (by dsimp only; omega) _)
    have HO1M : Hid (OwnNums M W2.heap.size 45 4 (some ⟨g, 0, none⟩) n c1 (Pure.toF F i tg)) := Lib.hid (by rw [← hM]; exact HO1V.out.put (by omega) rfl)
    have HO2M : Hid (OwnNums M W2.heap.size 29 5 a2 m c2 G) := Lib.hid (HO2V.out.kept (fun x hx => by rw [← hM]; exact setCell_other (HAP.out x ⟨g, 0, none⟩ hx rfl)))
    try rw [hM]
    clear hM hs2 hgl hgs
    have q0 := heap_cell HQM.out (j := 0) rfl
    have q1 := heap_cell HQM.out (j := 1) rfl
    go_wp2_with fail
    refine (valid_any (some ⟨g, 0, none⟩) n c1 a2 m c2 22 (Pure.toF F i tg) G (by omega) (by omega) _ HO1M.out.nums HO2M.out.nums).mono ?_
    rintro e N ⟨rfl, hb⟩
    have HYN := Lib.hid (heap_lft HYM.out hb)
    have HBN := Lib.hid (below_thn HBM.out hb)
    have HO1N := Lib.hid (HO1M.out.below hb)
    have HO2N := Lib.hid (HO2M.out.below hb)
    clear hb q0 q1
    have y0 := heap_cell HYN.out (j := 0) rfl
    have y1 := heap_cell HYN.out (j := 1) rfl
    have f0 := heap_frozen HYN.out 0
    have f1 := heap_frozen HYN.out 1
    obtain ⟨r, hr⟩ : ∃ r, Pure.press n (Pure.toF F i tg) m G = r := ⟨_, rfl⟩
    rw [hr]
    have HR := Lib.hid hr
    clear hr
    have hs2 := HS2.out
    cases r
    · go_wp2_with fail
      refine bodyPost_ret (v := .tuple #[pressV none 0 0 none 0 0, .int .i64 22]) (by simp [results, Try.results10, go_sem, y0, y1]; try rfl) rfl ⟨none, 0, 0, none, 0, 0, 22, rfl, ?_, .inl ⟨by decide, rfl, rfl, rfl, rfl, rfl, rfl, .inr (.inr ⟨HP.out, rfl, i, HI.out, HR.out⟩)⟩⟩
      repeat (first | with_reducible exact HBN.out | with_reducible refine Below.setCell ?_ (by first | (simp; done) | (dsimp only; omega)) _)
    · go_wp2_with fail
      refine bodyPost_ret (v := .tuple #[pressV (some ⟨g, 0, none⟩) n c1 a2 m c2, .int .i64 0]) (by simp [results, Try.results10, go_sem, y0, y1]; try rfl) rfl ⟨some ⟨g, 0, none⟩, n, c1, a2, m, c2, 0, rfl, ?_, .inr ⟨rfl, rfl, rfl, HP.out, i, HI.out, HR.out, ?_, ?_⟩⟩
      · repeat (first | with_reducible exact HBN.out | with_reducible refine Below.setCell ?_ (by first | (simp; done) | (dsimp only; omega)) _)
      · refine OwnNums.base (base := W2.heap.size) ?_ (by omega)
        repeat (first | with_reducible exact HO1N.out | with_reducible refine OwnNums.set ?_ (by first | (simp; omega) | (dsimp only; omega)) _)
      · refine OwnNums.base (base := W2.heap.size) ?_ (by omega)
        repeat (first | with_reducible exact HO2N.out | with_reducible refine OwnNums.set ?_ (by first | (simp; omega) | (dsimp only; omega)) _)
end Go.Proofs.Ytmdmfiddabmaeaa
