/-
  The contract of the specification's Strike.
-/
import Derived.Test.YtmdmfiddabmaeaaQScan
namespace Go.Proofs.Ytmdmfiddabmaeaa
open Go.RowKit

set_option maxHeartbeats 8000000 in
set_option maxRecDepth 100000 in
theorem rStrike_any (a : Option Addr) (n c : Nat) (b : Option Addr) (m d : Nat) (la : Option Addr) (len cap : Nat) (F G L : Nat → Int) (hn : n ≤ 60) (hm : m ≤ 60) (hl : len ≤ 1000000) (hna : a = none → n = 0) (hnb : b = none → m = 0) (wL : ∀ j, j < len → (Lit.int .i64 (L j)).wf = true) (w : World) (hF : NumsAt w a (n * 4) F) (hG : NumsAt w b (m * 5) G) (hL : NumsAt w la len L) :
    Calls Try.prog 9 #[pressV a n c b m d, .slice la len cap] w (StrikeOut n F m G len L w) := by
  obtain ⟨W, hW⟩ : ∃ W, (w.alloc (pressB a n c b m d)).alloc (pressB none 0 0 none 0 0) = W := ⟨_, rfl⟩
  have HB : Hid (Below w.heap.size w W) := Lib.hid (by rw [← hW]; exact (below_new _ _).alloc (by simp) _)
  have HX : Hid (W.heap[w.heap.size]? = some (pressB a n c b m d)) := Lib.hid (by rw [← hW]; exact heap_up (heap_top _ _ rfl) _)
  have HY : Hid (W.heap[w.heap.size + 1]? = some (pressB none 0 0 none 0 0)) := Lib.hid (by rw [← hW]; exact heap_top _ _ (by simp))
  have HSZ : Hid (W.heap.size = w.heap.size + 2) := Lib.hid (by rw [← hW]; simp)
  have HF := Lib.hid (hF.below HB.out)
  have HG := Lib.hid (hG.below HB.out)
  have HL := Lib.hid (hL.below HB.out)
  have HN := Lib.hid (And.intro hna hnb)
  have HWL := Lib.hid wL
  clear hF hG hL hna hnb wL
  have x0 := heap_cell HX.out (j := 0) rfl
  have x1 := heap_cell HX.out (j := 1) rfl
  go_enter Try.func9, Try.ntmps9
  go_upto_region 1 with fail
  try rw [hW]
  clear hW
  go_wp2_with fail
  refine (rPress_any a n c b m d F G hn hm _ HF.out HG.out).mono ?_
  rintro e W1 ⟨rfl, hb⟩
  clear x0 x1
  have HX1 := Lib.hid (heap_lft HX.out hb)
  have HY1 := Lib.hid (heap_lft HY.out hb)
  have HB1 := Lib.hid (below_thn HB.out hb)
  have HF1 := Lib.hid (HF.out.below hb)
  have HG1 := Lib.hid (HG.out.below hb)
  have HL1 := Lib.hid (HL.out.below hb)
  have HS1 : Hid (w.heap.size + 2 ≤ W1.heap.size) := Lib.hid (by have := hb.size; have := HSZ.out; omega)
  clear hb
  obtain ⟨r, hr⟩ : ∃ r, Pure.press n F m G = r := ⟨_, rfl⟩
  rw [hr]
  have HR := Lib.hid hr
  clear hr
  cases r
  · have y0 := heap_cell HY1.out (j := 0) rfl
    have y1 := heap_cell HY1.out (j := 1) rfl
    have f0 := heap_frozen HY1.out 0
    have f1 := heap_frozen HY1.out 1
    go_wp2_with fail
    refine bodyPost_ret (v := .tuple #[pressV none 0 0 none 0 0, .int .i64 20]) (by simp [results, Try.results9, go_sem, y0, y1]; try rfl) rfl ⟨none, 0, 0, none, 0, 0, 20, rfl, .inl ⟨HR.out, rfl⟩, ?_, .inl ⟨by decide, rfl, rfl, rfl, rfl, rfl, rfl⟩⟩
    repeat (first | with_reducible exact HB1.out | with_reducible refine Below.setCell ?_ (by first | (simp; done) | (dsimp only; omega)) _)
  · have x1 := heap_cell HX1.out (j := 1) rfl
    go_wp2_with fail
    clear x1
    go_loopw [6, 8, 16] (fun kk _ i wx => ∃ i' : Nat, i' ≤ m ∧ i = .int .i64 i' ∧ kk = .int .i64 (Pure.scanK len L G i') ∧ Below W1.heap.size W1 wx) (fun _ _ i _ => m - (intOf i).toNat)
    case atStart => exact ⟨0, Nat.zero_le _, rfl, rfl, Below.refl _ _⟩
    case round =>
      obtain ⟨wx, rfl⟩ : ∃ x, x = wr := ⟨_, rfl⟩
      obtain ⟨i, hi, rfl, rfl, hb⟩ := hrel
      have HBx := Lib.hid hb
      have HGx := Lib.hid (HG1.out.below hb)
      have HLx := Lib.hid (HL1.out.below hb)
      clear hb
      obtain ⟨k, hk⟩ : ∃ k, Pure.scanK len L G i = k := ⟨_, rfl⟩
      have hkl : k ≤ len := by rw [← hk]; exact Pure.scanK_le len L G i
      rw [hk]
      have HK := Lib.hid hk
      clear hk
      by_cases hlt : i < m
      · obtain ⟨g, off, rfl, _⟩ := HGx.out (i * 5) (by omega)
        have n1 : (i : Int) < m := by omega
        have e0 := HGx.out.at (show i * 5 < m * 5 by omega)
        have e1 := nums_row HGx.out (show i * 5 + 1 < m * 5 by omega)
        have e2 := nums_row HGx.out (show i * 5 + 2 < m * 5 by omega)
        have e3 := nums_row HGx.out (show i * 5 + 3 < m * 5 by omega)
        have e4 := nums_row HGx.out (show i * 5 + 4 < m * 5 by omega)
        obtain ⟨U, hU⟩ : ∃ U, wx.alloc (noteB (G (i * 5)) (G (i * 5 + 1)) (G (i * 5 + 2)) (G (i * 5 + 3)) (G (i * 5 + 4))) = U := ⟨_, rfl⟩
        have hbu : Below wx.heap.size wx U := by rw [← hU]; exact below_new _ _
        have HBU : Hid (Below W1.heap.size W1 U) := Lib.hid (below_thn HBx.out hbu)
        have HUX : Hid (U.heap[wx.heap.size]? = some (noteB (G (i * 5)) (G (i * 5 + 1)) (G (i * 5 + 2)) (G (i * 5 + 3)) (G (i * 5 + 4)))) := Lib.hid (by rw [← hU]; exact heap_top _ _ rfl)
        have HLU := Lib.hid (HLx.out.below hbu)
        clear hbu
        go_upto_region 7 with fail
        try rw [hU]
        clear hU e0 e1 e2 e3 e4
        have u0 := heap_cell HUX.out (j := 0) rfl
        by_cases hkn : k < len
        · obtain ⟨gl, ol, h9, _⟩ := HLU.out k hkn
          subst h9
          have n2 : (k : Int) < len := by omega
          have n3 : decide ((k : Int) < len) = true := decide_eq_true n2
          have l0 := HLU.out.at hkn
          by_cases he : L k = G (i * 5)
          · have ht : (L k == G (i * 5)) = true := by simpa using he
            have HE := Lib.hid he
            clear he
            have xx0 := among_below u0
            have xx1 := among_below l0
            have HSt : Hid (Below U.heap.size U U.drew) := Lib.hid (Below.refl _ _).drew
            have hne : Nonempty (Among (Below U.heap.size U)) := ⟨⟨_, HSt.out⟩⟩
            refine wp_region_class (Below U.heap.size U) (by kernel_rfl) (by kernel_rfl) HSt.out ?_
            repeat (go_big_quiet_step (fail))
            refine wpQuiet_nil ?_
            intro w8 hx
            have HB8 := Lib.hid (among_out hx)
            clear hx hne xx0 xx1
            go_wp2_with fail
            go_roundw
            case rel => exact ⟨i + 1, by omega, by go_num, by rw [Pure.scanK_yes (by rw [HK.out]; exact ⟨hkn, HE.out⟩), HK.out]; go_num, below_thn HBU.out HB8.out⟩
            case measure => simp [intOf]; omega
          · have ht : (L k == G (i * 5)) = false := by simpa using he
            have HE := Lib.hid he
            clear he
            have xx0 := among_below u0
            have xx1 := among_below l0
            have HSt : Hid (Below U.heap.size U U.drew) := Lib.hid (Below.refl _ _).drew
            have hne : Nonempty (Among (Below U.heap.size U)) := ⟨⟨_, HSt.out⟩⟩
            refine wp_region_class (Below U.heap.size U) (by kernel_rfl) (by kernel_rfl) HSt.out ?_
            repeat (go_big_quiet_step (fail))
            refine wpQuiet_nil ?_
            intro w8 hx
            have HB8 := Lib.hid (among_out hx)
            clear hx hne xx0 xx1
            go_wp2_with fail
            go_roundw
            case rel => exact ⟨i + 1, by omega, by go_num, by rw [Pure.scanK_no (by rw [HK.out]; exact fun h => HE.out h.2), HK.out], below_thn HBU.out HB8.out⟩
            case measure => simp [intOf]; omega
        · have n2 : ¬ (k : Int) < len := by omega
          have n3 : decide ((k : Int) < len) = false := decide_eq_false n2
          have xx0 := among_below u0
          have HSt : Hid (Below U.heap.size U U.drew) := Lib.hid (Below.refl _ _).drew
          have hne : Nonempty (Among (Below U.heap.size U)) := ⟨⟨_, HSt.out⟩⟩
          refine wp_region_class (Below U.heap.size U) (by kernel_rfl) (by kernel_rfl) HSt.out ?_
          repeat (go_big_quiet_step (fail))
          refine wpQuiet_nil ?_
          intro w8 hx
          have HB8 := Lib.hid (among_out hx)
          clear hx hne xx0
          go_wp2_with fail
          go_roundw
          case rel => exact ⟨i + 1, by omega, by go_num, by rw [Pure.scanK_no (by rw [HK.out]; exact fun h => hkn h.1), HK.out], below_thn HBU.out HB8.out⟩
          case measure => simp [intOf]; omega
      · obtain rfl : m = i := by omega
        have n1 : ¬ (m : Int) < m := by omega
        have HYx := Lib.hid (heap_lft HY1.out HBx.out)
        have HBt := Lib.hid (below_thn HB1.out HBx.out)
        by_cases hkn : k < len
        · have n2 : (k : Int) < len := by omega
          have y0 := heap_cell HYx.out (j := 0) rfl
          have y1 := heap_cell HYx.out (j := 1) rfl
          have f0 := heap_frozen HYx.out 0
          have f1 := heap_frozen HYx.out 1
          go_wp2_with fail
          refine bodyPost_ret (v := .tuple #[pressV none 0 0 none 0 0, .int .i64 21]) (by simp [results, Try.results9, go_sem, y0, y1]; try rfl) rfl ⟨none, 0, 0, none, 0, 0, 21, rfl, .inr (.inl ⟨HR.out, fun h => (struck_scan HR.out HWL.out).1 h (by rw [HK.out]; exact hkn), rfl⟩), ?_, .inl ⟨by decide, rfl, rfl, rfl, rfl, rfl, rfl⟩⟩
          repeat (first | with_reducible exact HBt.out | with_reducible refine Below.setCell ?_ (by first | (simp; done) | (dsimp only; omega)) _)
        · have n2 : ¬ (k : Int) < len := by omega
          have HXx := Lib.hid (heap_lft HX1.out HBx.out)
          have HFx := Lib.hid (HF1.out.below HBx.out)
          have HOK : Hid (struckOk len L m G) := Lib.hid ((struck_scan HR.out HWL.out).2 (by rw [HK.out]; exact hkn))
          have x0 := heap_cell HXx.out (j := 0) rfl
          have x1 := heap_cell HXx.out (j := 1) rfl
          go_wp2_with fail
          refine (rWithout_any a n c b m d la len cap F G L hn hm hl HN.out.1 HN.out.2 (Pure.kept_sorted HR.out len L) _ HFx.out HGx.out HLx.out).mono ?_
          rintro e W2 ⟨a1, c1, a2, c2, rfl, ho1, ho2, hb⟩
          have HO1 := Lib.hid ho1
          have HO2 := Lib.hid ho2
          have HY2 := Lib.hid (heap_lft HYx.out hb)
          have HB2 := Lib.hid (below_thn HBt.out hb)
          have HS2 : Hid (w.heap.size + 2 ≤ wx.heap.size) := Lib.hid (by have := HBx.out.size; have := HS1.out; omega)
          clear ho1 ho2 hb x0 x1
          have y0 := heap_cell HY2.out (j := 0) rfl
          have y1 := heap_cell HY2.out (j := 1) rfl
          have f0 := heap_frozen HY2.out 0
          have f1 := heap_frozen HY2.out 1
          go_wp2_with fail
          refine bodyPost_ret (v := .tuple #[pressV a1 n c1 a2 (Pure.leftN len L G m) c2, .int .i64 0]) (by simp [results, Try.results9, go_sem, y0, y1]; try rfl) rfl ⟨a1, n, c1, a2, _, c2, 0, rfl, .inr (.inr ⟨HR.out, HOK.out, rfl⟩), ?_, .inr ⟨rfl, rfl, rfl, ?_, ?_⟩⟩
          · repeat (first | with_reducible exact HB2.out | with_reducible refine Below.setCell ?_ (by simp) _)
          · have h2 := HS2.out
            refine OwnNums.base (base := wx.heap.size) ?_ (by omega)
            repeat (first | with_reducible exact HO1.out | with_reducible refine OwnNums.set ?_ (by simp; omega) _)
          · have h2 := HS2.out
            refine OwnNums.base (base := wx.heap.size) ?_ (by omega)
            repeat (first | with_reducible exact HO2.out | with_reducible refine OwnNums.set ?_ (by simp; omega) _)

end Go.Proofs.Ytmdmfiddabmaeaa
