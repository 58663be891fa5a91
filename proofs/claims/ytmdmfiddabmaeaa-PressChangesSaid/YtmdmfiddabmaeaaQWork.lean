/-
  The contract of both.
-/
import Derived.Test.YtmdmfiddabmaeaaQMill
namespace Go.Proofs.Ytmdmfiddabmaeaa
open Go.RowKit

set_option maxHeartbeats 4000000 in
set_option maxRecDepth 100000 in
theorem both_any (x y x' y' : Int) (w : World) : Calls Try.prog 55 #[spanV x y, spanV x' y'] w fun e w' => (∃ p q, e = .returned (spanV p q)) ∧ Below w.heap.size w w' := by
  obtain ⟨W, hW⟩ : ∃ W, ((w.alloc (spanB x y)).alloc (spanB x' y')).alloc (spanB 0 0) = W := ⟨_, rfl⟩
  have HB : Hid (Below w.heap.size w W) := Lib.hid (by rw [← hW]; exact ((below_new _ _).alloc (by simp) _).alloc (by simp; omega) _)
  have HX : Hid (W.heap[w.heap.size]? = some (spanB x y)) := Lib.hid (by rw [← hW]; exact heap_up (heap_up (heap_top _ _ rfl) _) _)
  have HX' : Hid (W.heap[w.heap.size + 1]? = some (spanB x' y')) := Lib.hid (by rw [← hW]; exact heap_up (heap_top _ _ (by simp)) _)
  have HY : Hid (W.heap[w.heap.size + 1 + 1]? = some (spanB 0 0)) := Lib.hid (by rw [← hW]; exact heap_top _ _ (by simp))
  go_enter Try.func55, Try.ntmps55
  go_upto_region 1 with fail
  try rw [hW]
  clear hW
  have x0 := heap_cell HX.out (j := 0) rfl
  have x1 := heap_cell HX.out (j := 1) rfl
  have x'0 := heap_cell HX'.out (j := 0) rfl
  have x'1 := heap_cell HX'.out (j := 1) rfl
  have y0 := heap_cell HY.out (j := 0) rfl
  have y1 := heap_cell HY.out (j := 1) rfl
  have f0 := heap_frozen HY.out 0
  have f1 := heap_frozen HY.out 1
  go_wp2_with fail
  all_goals
    refine bodyPost_ret (v := spanV _ _) (by simp [results, Try.results55, go_sem, y0, y1]; exact ⟨rfl, rfl⟩) rfl ⟨⟨_, _, rfl⟩, ?_⟩
    repeat (first | with_reducible exact HB.out | with_reducible refine Below.setCell ?_ (by first | (simp; done) | (dsimp only; omega)) _)

namespace Pure
theorem firstAt_lt (q : Nat → Bool) (len : Nat) : firstAt q len < (len : Int) := by
  unfold firstAt
  cases h : (List.range len).find? q with
  | none => simp; omega
  | some k =>
    have := List.mem_range.1 (List.mem_of_find?_eq_some h)
    simp only
    omega
theorem press_note {n : Nat} {F : Nat → Int} {m : Nat} {G : Nat → Int} (h : press n F m G = true) : ∀ j, j < m → 0 ≤ index n F (G (j * 5 + 1)) ∧ 1 ≤ G (j * 5 + 2) ∧ G (j * 5 + 2) ≤ 6 := by
  unfold press fitW at h
  simp only [Bool.and_eq_true] at h
  intro j hj
  have h1 : ((List.range m).any fun j => wrongW n F (G (j * 5)) (G (j * 5 + 1)) (G (j * 5 + 2)) (G (j * 5 + 3)) (G (j * 5 + 4))) = false := by simpa using h.1.2
  have h2 := List.any_eq_false.1 h1 j (List.mem_range.2 hj)
  unfold wrongW at h2
  simp at h2
  omega
end Pure
/-- What work gives. -/
def WorkOut (a : Option Addr) (n c : Nat) (b : Option Addr) (m d : Nat) (F G : Nat → Int) (w : World) (e : Ending) (w' : World) : Prop :=
  ∃ cs, e = .returned (.tuple #[.agg cs, .int .i64 (Pure.err (Pure.press n F m G) 20)]) ∧ (if Pure.press n F m G then Mill a n c b m d cs else Mill none 0 0 none 0 0 cs) ∧ Below w.heap.size w w'

set_option maxHeartbeats 8000000 in
set_option maxRecDepth 100000 in
theorem work_any (a : Option Addr) (n c : Nat) (b : Option Addr) (m d : Nat) (F G : Nat → Int) (hn : n ≤ 60) (hm : m ≤ 60) (w : World) (hF : NumsAt w a (n * 4) F) (hG : NumsAt w b (m * 5) G) :
    Calls Try.prog 37 #[pressV a n c b m d] w (WorkOut a n c b m d F G w) := by
  obtain ⟨W, hW⟩ : ∃ W, (w.alloc (pressB a n c b m d)).alloc (millB (millZ none 0 0 none 0 0)) = W := ⟨_, rfl⟩
  have HB : Hid (Below w.heap.size w W) := Lib.hid (by rw [← hW]; exact (below_new _ _).alloc (by simp) _)
  have HX : Hid (W.heap[w.heap.size]? = some (pressB a n c b m d)) := Lib.hid (by rw [← hW]; exact heap_up (heap_top _ _ rfl) _)
  have HY : Hid (W.heap[w.heap.size + 1]? = some (millB (millZ none 0 0 none 0 0))) := Lib.hid (by rw [← hW]; exact heap_top _ _ (by simp))
  have HSZ : Hid (W.heap.size = w.heap.size + 2) := Lib.hid (by rw [← hW]; simp)
  have HF := Lib.hid (hF.below HB.out)
  have HG := Lib.hid (hG.below HB.out)
  clear hF hG
  have x0 := heap_cell HX.out (j := 0) rfl
  have x1 := heap_cell HX.out (j := 1) rfl
  go_enter Try.func37, Try.ntmps37
  go_upto_region 1 with fail
  rw [mill_zeroCells]
  try rw [hW]
  clear hW
  go_wp2_with fail
  refine (check_any a n c b m d F G hn hm _ HF.out HG.out).mono ?_
  rintro e W1 ⟨rfl, hb⟩
  have HX1 := Lib.hid (heap_lft HX.out hb)
  have HY1 := Lib.hid (heap_lft HY.out hb)
  have HB1 := Lib.hid (below_thn HB.out hb)
  have HF1 := Lib.hid (HF.out.below hb)
  have HG1 := Lib.hid (HG.out.below hb)
  have HS1 : Hid (w.heap.size + 2 ≤ W1.heap.size) := Lib.hid (by have := hb.size; have := HSZ.out; omega)
  clear hb x0 x1
  obtain ⟨r, hr⟩ : ∃ r, Pure.press n F m G = r := ⟨_, rfl⟩
  unfold WorkOut
  rw [hr]
  have HR := Lib.hid hr
  clear hr
  have hz0 := mill_zero none 0 0 none 0 0
  cases r
  · rw [show Pure.err false 20 = (20 : Int) from rfl]
    go_wp2_with (first | (with_reducible refine wpList_mill_build rfl _ rfl _ mill_built0 ?_) | (with_reducible refine wpList_mill_store rfl _ _ rfl (w.heap.size + 1) _ _ rfl rfl HY1.out hz0.size hz0.size hz0.one ?_; intro W2 hy2 _ hb2) | go_in)
    refine bodyPost_ret (v := .tuple #[.agg (millZ none 0 0 none 0 0), .int .i64 20]) ?_ rfl ⟨millZ none 0 0 none 0 0, by rw [HR.out]; rfl, by rw [HR.out]; exact hz0, hb2 _ _ (by omega) HB1.out⟩
    exact results_mill2 Try.results37 _ W2 (w.heap.size + 1) _ _ rfl rfl hy2 hz0.size
  · rw [show Pure.err true 20 = (0 : Int) from rfl]
    have x0 := heap_cell HX1.out (j := 0) rfl
    have x1 := heap_cell HX1.out (j := 1) rfl
    have hz1 := mill_first a n c b m d
    have hzs : (Try.zeroCells64).size = 152 := by rw [mill_zeroCells]; exact hz0.size
    have hfew := Pure.press_few HR.out
    have HT : Hid (∀ M : World, M = W1.alloc (millB Try.zeroCells64) → M.heap[W1.heap.size]? = some (millB Try.zeroCells64)) := Lib.hid (fun M h => by rw [h]; exact heap_top _ _ rfl)
    go_upto_region 5 with (first | (with_reducible refine wpList_mill_store rfl _ _ rfl W1.heap.size _ _ rfl rfl (HT.out _ rfl) hzs hz1.size hz1.one ?_; intro W2 hy2 ho2 hb2) | go_in)
    have HM2 : Hid (MillAt W2 W1.heap.size a n c b m d) := Lib.hid ⟨_, hy2, hz1⟩
    have HB2 : Hid (Below W1.heap.size W1 W2) := Lib.hid (hb2 _ _ (Nat.le_refl _) (below_new _ _))
    clear hy2 ho2 hb2 x0 x1 hz1 hzs hz0 HT
    have x0 := heap_cell (heap_lft HX1.out HB2.out) (j := 0) rfl
    go_wp2_with fail
    clear x0
    go_loopw [6, 7, 8, 23] (fun _ _ _ i wr => ∃ k : Nat, k ≤ n ∧ i = .int .i64 k ∧ MillAt wr W1.heap.size a n c b m d ∧ Below W1.heap.size W1 wr) (fun _ _ _ i _ => n - (intOf i).toNat)
    case atStart => exact ⟨0, Nat.zero_le _, rfl, HM2.out, HB2.out⟩
    case round =>
      obtain ⟨k, hk, rfl, hm3, hb3⟩ := hrel
      have HM3 := Lib.hid hm3
      have HB3 := Lib.hid hb3
      have HX3 := Lib.hid (heap_lft HX1.out hb3)
      have HF3 := Lib.hid (HF1.out.below hb3)
      clear hm3 hb3
      by_cases hk1 : k < n
      · obtain ⟨bb, off, rfl, _⟩ := HF3.out (k * 4) (by omega)
        have n1 : (k : Int) < n := by omega
        have c0 := HF3.out.at (show k * 4 < n * 4 by omega)
        have c1 := nums_row HF3.out (show k * 4 + 1 < n * 4 by omega)
        have c2 := nums_row HF3.out (show k * 4 + 2 < n * 4 by omega)
        have c3 := nums_row HF3.out (show k * 4 + 3 < n * 4 by omega)
        obtain ⟨U, hU⟩ : ∃ U, wr.alloc (ringB (F (k * 4)) (F (k * 4 + 1)) (F (k * 4 + 2)) (F (k * 4 + 3))) = U := ⟨_, rfl⟩
        have hbu : Below wr.heap.size wr U := by rw [← hU]; exact below_new _ _
        have HBU : Hid (Below W1.heap.size W1 U) := Lib.hid (below_thn HB3.out hbu)
        have HUX : Hid (U.heap[wr.heap.size]? = some (ringB (F (k * 4)) (F (k * 4 + 1)) (F (k * 4 + 2)) (F (k * 4 + 3)))) := Lib.hid (by rw [← hU]; exact heap_top _ _ rfl)
        have HMU := Lib.hid (HM3.out.lift hbu)
        have HSU : Hid (W1.heap.size < wr.heap.size) := Lib.hid (by have h := HB3.out.size; obtain ⟨cs, h1, _⟩ := HM3.out; exact (Array.getElem?_eq_some_iff.1 h1).1)
        clear hbu
        have u3 := heap_cell HUX.out (j := 3) rfl
        have hx := heap_lft HX1.out HBU.out
        have x0 := heap_cell hx (j := 0) rfl
        have x1 := heap_cell hx (j := 1) rfl
        clear hx
        go_upto_region 8 with fail
        try rw [hU]
        clear hU c0 c1 c2 c3
        go_wp2_with fail
        refine (index_any (some ⟨bb, off, none⟩) n c b m d F (F (k * 4 + 3)) hn _ (HF1.out.below HBU.out)).mono ?_
        rintro e V ⟨rfl, hb⟩
        have HBV := Lib.hid (below_thn HBU.out hb)
        have HMV := Lib.hid (HMU.out.lift hb)
        have HVX := Lib.hid (heap_lft HUX.out hb)
        clear hb u3 x0 x1
        obtain ⟨z, hz⟩ := HMV.out.int (i := 2 + k) (by omega) (by omega)
        have fz := HMV.out.frozen (2 + k)
        have hk10 : (k : Int) < 10 := by omega
        go_wp2_with fail
        obtain ⟨Y, hY⟩ : ∃ Y, V.setCell ⟨W1.heap.size, 2 + k, none⟩ (.int .i64 (Pure.index n F (F (k * 4 + 3)))) = Y := ⟨_, rfl⟩
        have HMY : Hid (MillAt Y W1.heap.size (some ⟨bb, off, none⟩) n c b m d) := Lib.hid (by rw [← hY]; exact HMV.out.set (by omega) _)
        have HBY : Hid (Below W1.heap.size W1 Y) := Lib.hid (by rw [← hY]; exact HBV.out.setCell (Nat.le_refl _) _)
        have hlt := HSU.out
        have HYX : Hid (Y.heap[wr.heap.size]? = some (ringB (F (k * 4)) (F (k * 4 + 1)) (F (k * 4 + 2)) (F (k * 4 + 3)))) := Lib.hid (by rw [← hY]; exact (setCell_other (by dsimp only; omega)).trans HVX.out)
        try rw [hY]
        clear hY z hz fz hlt
        obtain ⟨wo, rfl⟩ : ∃ x, x = wr := ⟨_, rfl⟩
        go_loopw [8] (fun i8 wx => ∃ q : Nat, q ≤ 7 ∧ i8 = .int .i64 q ∧ MillAt wx W1.heap.size (some ⟨bb, off, none⟩) n c b m d ∧ wx.heap[wo.heap.size]? = some (ringB (F (k * 4)) (F (k * 4 + 1)) (F (k * 4 + 2)) (F (k * 4 + 3))) ∧ Below W1.heap.size W1 wx) (fun i8 _ => 7 - (intOf i8).toNat)
        case atStart => exact ⟨1, by omega, rfl, HMY.out, HYX.out, HBY.out⟩
        case round =>
          obtain ⟨q, hq, rfl, hm4, hx4, hb4⟩ := hrel
          have HM4 := Lib.hid hm4
          have HX4 := Lib.hid hx4
          have HB4 := Lib.hid hb4
          clear hm4 hx4 hb4
          by_cases hq1 : q ≤ 6
          · have q6 : (q : Int) ≤ 6 := by omega
            obtain ⟨z, hz⟩ := HM4.out.int (i := 12 + k * 14 + q * 2 + 1) (by omega) (by omega)
            have fz := HM4.out.frozen (12 + k * 14 + q * 2 + 1)
            go_wp2_with fail
            go_roundw
            case rel =>
              have hs := HSU.out
              exact ⟨q + 1, by omega, by go_num, HM4.out.set (by omega) _, (setCell_other (by dsimp only; omega)).trans HX4.out, HB4.out.setCell (Nat.le_refl _) _⟩
            case measure => simp [intOf]; omega
          · obtain rfl : q = 7 := by omega
            have x3 := heap_cell HX4.out (j := 3) rfl
            obtain ⟨z, hz⟩ := HM4.out.int (i := 12 + k * 14 + 12 + 1) (by omega) (by omega)
            have fz := HM4.out.frozen (12 + k * 14 + 12 + 1)
            by_cases ht : F (k * 4 + 3) = 0
            · have ht' : (F (k * 4 + 3) == 0) = true := by simpa using ht
              clear ht
              go_wp2_with fail
              exact ⟨⟨k + 1, by omega, by go_num, HM4.out.set (by omega) _, HB4.out.setCell (Nat.le_refl _) _⟩, by simp [intOf]; omega⟩
            · have ht' : (F (k * 4 + 3) == 0) = false := by simpa using ht
              clear ht
              go_wp2_with fail
              go_roundw
              case rel => exact ⟨k + 1, by omega, by go_num, HM4.out, HB4.out⟩
              case measure => simp [intOf]; omega
      · obtain rfl : k = n := by omega
        have n1 : ¬ (k : Int) < k := by omega
        have x0 := heap_cell HX3.out (j := 0) rfl
        have x1 := heap_cell HX3.out (j := 1) rfl
        go_wp2_with fail
        clear x0 x1
        go_loopw [10, 11, 57] (fun _ _ i wx => ∃ j : Nat, j ≤ m ∧ i = .int .i64 j ∧ MillAt wx W1.heap.size a k c b m d ∧ Below W1.heap.size W1 wx) (fun _ _ i _ => m - (intOf i).toNat)
        case atStart => exact ⟨0, Nat.zero_le _, rfl, HM3.out, HB3.out⟩
        case round =>
          obtain ⟨j, hj, rfl, hm5, hb5⟩ := hrel
          have HM5 := Lib.hid hm5
          have HB5 := Lib.hid hb5
          have HG5 := Lib.hid (HG1.out.below hb5)
          clear hm5 hb5
          by_cases hj1 : j < m
          · obtain ⟨g, og, rfl, _⟩ := HG5.out (j * 5) (by omega)
            have n2 : (j : Int) < m := by omega
            have c0 := HG5.out.at (show j * 5 < m * 5 by omega)
            have c1 := nums_row HG5.out (show j * 5 + 1 < m * 5 by omega)
            have c2 := nums_row HG5.out (show j * 5 + 2 < m * 5 by omega)
            have c3 := nums_row HG5.out (show j * 5 + 3 < m * 5 by omega)
            have c4 := nums_row HG5.out (show j * 5 + 4 < m * 5 by omega)
            obtain ⟨U, hU⟩ : ∃ U, wr.alloc (noteB (G (j * 5)) (G (j * 5 + 1)) (G (j * 5 + 2)) (G (j * 5 + 3)) (G (j * 5 + 4))) = U := ⟨_, rfl⟩
            have hbu : Below wr.heap.size wr U := by rw [← hU]; exact below_new _ _
            have HBU : Hid (Below W1.heap.size W1 U) := Lib.hid (below_thn HB5.out hbu)
            have HUX : Hid (U.heap[wr.heap.size]? = some (noteB (G (j * 5)) (G (j * 5 + 1)) (G (j * 5 + 2)) (G (j * 5 + 3)) (G (j * 5 + 4)))) := Lib.hid (by rw [← hU]; exact heap_top _ _ rfl)
            have HMU := Lib.hid (HM5.out.lift hbu)
            have HXU := Lib.hid (heap_lft HX1.out HBU.out)
            have HFU := Lib.hid (HF1.out.below HBU.out)
            clear hbu
            go_upto_region 19 with fail
            try rw [hU]
            clear hU c0 c1 c2 c3 c4
            have hpn := Pure.press_note HR.out j hj1
            obtain ⟨t, ht⟩ : ∃ t : Nat, Pure.index k F (G (j * 5 + 1)) = t := ⟨(Pure.index k F (G (j * 5 + 1))).toNat, by omega⟩
            have htl : t < 10 := by have := Pure.firstAt_lt (fun i => F (i * 4) == G (j * 5 + 1)) k; unfold Pure.index at ht; omega
            have HT := Lib.hid ht
            have hkl : (G (j * 5 + 2)).toNat < 7 := by omega
            have xx0 : ∀ xq : Among (Below U.heap.size U), xq.val.cell? ⟨w.heap.size, 0, none⟩ = some (.slice a k c) := fun xq => below_cell xq.ok (heap_cell HXU.out rfl)
            have xx1 : ∀ xq : Among (Below U.heap.size U), xq.val.cell? ⟨w.heap.size, 1, none⟩ = some (.slice (some ⟨g, og, none⟩) m d) := fun xq => below_cell xq.ok (heap_cell HXU.out rfl)
            have xx2 : ∀ xq : Among (Below U.heap.size U), xq.val.cell? ⟨wr.heap.size, 1, none⟩ = some (.int .i64 (G (j * 5 + 1))) := fun xq => below_cell xq.ok (heap_cell HUX.out rfl)
            have xx3 : ∀ xq : Among (Below U.heap.size U), xq.val.cell? ⟨wr.heap.size, 2, none⟩ = some (.int .i64 (G (j * 5 + 2))) := fun xq => below_cell xq.ok (heap_cell HUX.out rfl)
            have HIX : Hid (∀ xq : Among (Below U.heap.size U), Calls Try.prog 38 #[pressV a k c (some ⟨g, og, none⟩) m d, .int .i64 (G (j * 5 + 1))] xq.val fun e w' => e = .returned (.int .i64 (t : Int)) ∧ ∃ y : Among (Below U.heap.size U), w' = y.val) := Lib.hid (fun xq => calls_class ((index_any a k c (some ⟨g, og, none⟩) m d F (G (j * 5 + 1)) hn xq.val (HFU.out.below xq.ok)).mono fun e w' h => ⟨h.1.trans (ret_int HT.out), xq.ok.trans (h.2.mono xq.ok.size)⟩))
            have HSt : Hid (Below U.heap.size U U.drew) := Lib.hid (Below.refl _ _).drew
            have hne : Nonempty (Among (Below U.heap.size U)) := ⟨⟨_, HSt.out⟩⟩
            refine wp_region_class (Below U.heap.size U) (by kernel_rfl) (by kernel_rfl) HSt.out ?_
            repeat (go_big_quiet_step ((first | (go_at_call 38; with_reducible exact HIX.out _))))
            refine wpQuiet_nil ?_
            intro w8 hx
            have hB8 := among_out hx
            clear hx
            have HB8 := Lib.hid hB8
            clear hB8 hne xx0 xx1 xx2 xx3
            have HM8 := Lib.hid (HMU.out.lift HB8.out)
            have HX8 := Lib.hid (heap_lft HUX.out HB8.out)
            have HBW8 := Lib.hid (below_thn HBU.out HB8.out)
            obtain ⟨ad, had⟩ : ∃ ad, 12 + t * 14 + (G (j * 5 + 2)).toNat * 2 = ad := ⟨_, rfl⟩
            rw [had]
            have HAD : Hid (2 ≤ ad ∧ ad + 1 < 152) := Lib.hid (by omega)
            obtain ⟨z0, hz0⟩ := HM8.out.int (i := ad) HAD.out.1 (by have := HAD.out.2; omega)
            obtain ⟨z1, hz1⟩ := HM8.out.int (i := ad + 1) (by have := HAD.out.1; omega) HAD.out.2
            have y3 := heap_cell HX8.out (j := 3) rfl
            have y4 := heap_cell HX8.out (j := 4) rfl
            clear ht hkl htl had
            go_wp2_with fail
            have HBO : Hid (∀ u : World, Below w8.heap.size w8 u → Calls Try.prog 55 #[spanV z0 z1, spanV (G (j * 5 + 3)) (G (j * 5 + 4))] u fun e w' => ∃ p q, e = .returned (spanV p q) ∧ Below w8.heap.size w8 w' ∧ (∃ x0, w'.cell? ⟨W1.heap.size, ad, none⟩ = some x0) ∧ (∃ x1, w'.cell? ⟨W1.heap.size, ad + 1, none⟩ = some x1) ∧ w'.frozen? ⟨W1.heap.size, ad, none⟩ = false ∧ w'.frozen? ⟨W1.heap.size, ad + 1, none⟩ = false) := Lib.hid (fun u hu => (both_any _ _ _ _ u).mono fun e w' ⟨⟨p, q, h⟩, hb⟩ => ⟨p, q, h, below_thn hu hb, ⟨_, below_cell (below_thn hu hb) hz0⟩, ⟨_, below_cell (below_thn hu hb) hz1⟩, (HM8.out.lift (below_thn hu hb)).frozen _, (HM8.out.lift (below_thn hu hb)).frozen _⟩)
            go_region_with ((go_at_call 55; refine (HBO.out _ (Below.refl _ _).drew).mono ?_; rintro e w9 ⟨p, q, rfl, hb, ⟨v0, k0⟩, ⟨v1, k1⟩, f0, f1⟩; have HB9 := Lib.hid hb; clear hb))
            all_goals
              obtain ⟨X, hX⟩ : ∃ X, (w9.setCell ⟨W1.heap.size, ad, none⟩ (.int .i64 p)).setCell ⟨W1.heap.size, ad + 1, none⟩ (.int .i64 q) = X := ⟨_, rfl⟩
              have HMX : Hid (MillAt X W1.heap.size a k c (some ⟨g, og, none⟩) m d) := Lib.hid (by rw [← hX]; exact ((HM8.out.lift HB9.out).set HAD.out.1 _).set (by have := HAD.out.1; omega) _)
              have HBX : Hid (Below W1.heap.size W1 X) := Lib.hid (by rw [← hX]; exact ((below_thn HBW8.out HB9.out).setCell (Nat.le_refl _) _).setCell (Nat.le_refl _) _)
              rw [hX]
              clear hX k0 k1 f0 f1
              go_wp2_with fail
              go_roundw
              case rel => exact ⟨j + 1, by omega, by go_num, HMX.out, HBX.out⟩
              case measure => simp [intOf]; omega
          · obtain rfl : j = m := by omega
            have n2 : ¬ (j : Int) < j := by omega
            obtain ⟨cs, hcs, hmi⟩ := HM5.out
            have HY5 := Lib.hid (heap_lft HY1.out HB5.out)
            have hz0 := mill_zero none 0 0 none 0 0
            go_wp2_with (first | (with_reducible refine wpList_mill_load rfl _ rfl W1.heap.size cs rfl hcs hmi.size ?_) | (with_reducible refine wpList_mill_store rfl _ _ rfl (w.heap.size + 1) _ _ rfl rfl HY5.out hz0.size hmi.size hmi.one ?_; intro W6 hy6 _ hb6) | go_in)
            have hs1 := HS1.out
            refine bodyPost_ret (v := .tuple #[.agg cs, .int .i64 0]) ?_ rfl ⟨cs, by rw [HR.out]; rfl, by rw [HR.out]; exact hmi, hb6 _ _ (by omega) (HB1.out.trans (HB5.out.mono (by omega)))⟩
            exact results_mill2 Try.results37 _ W6 (w.heap.size + 1) _ _ rfl rfl hy6 hmi.size
end Go.Proofs.Ytmdmfiddabmaeaa
