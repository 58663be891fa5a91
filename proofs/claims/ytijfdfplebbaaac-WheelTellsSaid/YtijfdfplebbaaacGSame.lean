/-
  The contracts of the specification's Hunts, Again, TwinWheels, GreatWheels, SameWheels and SameTrains.
-/
import Derived.Test.YtijfdfplebbaaacGRef
namespace Go.Proofs.Ytijfdfplebbaaac
open Go.RowKit

theorem Pure.huntsB_succ (F : Nat → Int) (k : Nat) (L : Nat → Int) : huntsB F (k + 1) L = (huntsB F k L && (((Nat.gcd (tooth F (L (k * 2))) (tooth F (L (k * 2 + 1))) : Nat) : Int) == 1)) := by
  unfold huntsB
  rw [List.range_succ, List.any_append]
  simp [Bool.not_or]
theorem Pure.huntsB_zero (F L : Nat → Int) : huntsB F 0 L = true := rfl
set_option maxHeartbeats 16000000 in
set_option maxRecDepth 100000 in
theorem rHunts_any (a : Option Addr) (n c : Nat) (F : Nat → Int) (la : Option Addr) (ln lc : Nat) (L : Nat → Int) (hn : n ≤ 20) (hl : ln ≤ 10) (w : World) (hF : NumsAt w a n F) (hL : NumsAt w la (ln * 2) L) :
    Calls Try.prog 9 #[wheelsV a n c, .slice la ln lc] w (TopOut (.bool (Pure.hunC n F ln L)) (Pure.gearC n F ln L) w) := by
  obtain ⟨W, hW⟩ : ∃ W, w.alloc (wheelsB a n c) = W := ⟨_, rfl⟩
  have HB0 : Hid (Below w.heap.size w W) := Lib.hid (by rw [← hW]; exact below_new _ _)
  have HX : Hid (W.heap[w.heap.size]? = some (wheelsB a n c)) := Lib.hid (by rw [← hW]; exact heap_top _ _ rfl)
  have HFF := Lib.hid (hF.below HB0.out)
  have HLL := Lib.hid (hL.below HB0.out)
  obtain ⟨code, hcode⟩ : ∃ z, Pure.gearC n F ln L = z := ⟨_, rfl⟩
  obtain ⟨xn, hxn⟩ : ∃ z, Pure.hunC n F ln L = z := ⟨_, rfl⟩
  have hrt := rRatioTop_any a n c F la ln lc L hn hl W (hF.below HB0.out) (hL.below HB0.out)
  obtain ⟨rn, hrn⟩ : ∃ z, Pure.ratN n F ln L = z := ⟨_, rfl⟩
  obtain ⟨rd, hrd⟩ : ∃ z, Pure.ratD n F ln L = z := ⟨_, rfl⟩
  rw [hrn, hrd, hcode] at hrt
  rw [hcode, hxn]
  have HCD := Lib.hid hcode
  have HXN := Lib.hid hxn
  have HRT := Lib.hid hrt
  clear hF hL hcode hxn hrn hrd hrt
  have x0 := heap_cell HX.out (j := 0) rfl
  go_enter Try.func9, Try.ntmps9
  go_upto_region 1 with fail
  try rw [hW]
  clear hW
  go_wp2_with fail
  refine HRT.out.mono ?_
  rintro e u ⟨rfl, hb⟩
  have HXu := Lib.hid (heap_lft HX.out hb)
  have HBu := Lib.hid (below_thn HB0.out hb)
  have HFu := Lib.hid (HFF.out.below hb)
  have HLu := Lib.hid (HLL.out.below hb)
  clear hb x0
  go_upto_region 2 with fail
  obtain ⟨V, hV⟩ : ∃ V, u.alloc (partB rn rd) = V := ⟨_, rfl⟩
  have hbv : Below u.heap.size u V := by rw [← hV]; exact below_new _ _
  have HXV := Lib.hid (heap_lft HXu.out hbv)
  have HBV := Lib.hid (below_thn HBu.out hbv)
  have HFV := Lib.hid (HFu.out.below hbv)
  have HLV := Lib.hid (HLu.out.below hbv)
  try rw [hV]
  clear hV hbv
  by_cases h0 : code = 0
  rotate_left
  · have hne : (code != 0) = true := by simp [h0]
    have HNE := Lib.hid h0
    clear h0
    obtain rfl : xn = false := by rw [← HXN.out, Pure.hunC, if_neg (by rw [HCD.out]; exact HNE.out)]
    go_wp2_with fail
    go_ret2
    exact ⟨rfl, HBV.out⟩
  · subst h0
    obtain ⟨hg1, hg2⟩ := Pure.gearC_zero HCD.out
    have HG := Lib.hid (gears_of hg1 hg2).1
    obtain rfl : xn = Pure.huntsB F ln L := by rw [← HXN.out, Pure.hunC, if_pos HCD.out]
    have hl20 : (ln : Int) ≤ 3 := by have := HG.out.l; omega
    clear hg1 hg2
    go_wp2_with fail
    go_loopw [8, 10, 22] (fun u _ i wr => ∃ k : Nat, k ≤ ln ∧ i = .int .i64 k ∧ u = .bool (Pure.huntsB F k L) ∧ Below V.heap.size V wr) (fun _ _ i _ => ln - (intOf i).toNat)
    case atStart => exact ⟨0, Nat.zero_le _, rfl, rfl, Below.refl _ _⟩
    case round =>
      obtain ⟨k, hk, rfl, rfl, hb⟩ := hrel
      have HBk := Lib.hid hb
      clear hb
      by_cases hk1 : k < ln
      · obtain ⟨b, off, rfl, -⟩ := HLV.out (k * 2) (by omega)
        have n1 : (k : Int) < ln := by omega
        have c0 := (HLV.out.below HBk.out).at (show k * 2 < ln * 2 by omega)
        have c1 := nums_row (HLV.out.below HBk.out) (show k * 2 + 1 < ln * 2 by omega)
        have hp := HG.out.p k hk1
        have hsu := Pure.huntsB_succ F k L
        obtain ⟨i1, hi1, hx1, ht1, hz1⟩ := HG.out.tooth hp.1
        obtain ⟨i2, hi2, hx2, ht2, hz2⟩ := HG.out.tooth hp.2
        obtain ⟨x, hx⟩ : ∃ z, L (k * 2) = z := ⟨_, rfl⟩
        obtain ⟨y, hy⟩ : ∃ z, L (k * 2 + 1) = z := ⟨_, rfl⟩
        rw [hx] at c0 hx1 ht1 hz1 hsu
        rw [hy] at c1 hx2 ht2 hz2 hsu
        obtain ⟨p, hpE⟩ : ∃ z, Pure.tooth F x = z := ⟨_, rfl⟩
        obtain ⟨q, hqE⟩ : ∃ z, Pure.tooth F y = z := ⟨_, rfl⟩
        rw [hpE] at ht1 hz1 hsu
        rw [hqE] at ht2 hz2 hsu
        have hco := common_any p q (by unfold most; omega) (by unfold most; omega)
        obtain ⟨g, hg⟩ : ∃ z, Nat.gcd p q = z := ⟨_, rfl⟩
        rw [hg] at hco hsu
        obtain ⟨hbk, hhb⟩ : ∃ z, Pure.huntsB F k L = z := ⟨_, rfl⟩
        rw [hhb] at hsu ⊢
        obtain ⟨ba, oa, rfl, g1⟩ := HFV.out i1 hi1
        have g2 := HFV.out.at hi2
        rw [ht1] at g1
        rw [ht2] at g2
        have hn8 := HG.out.t.1
        have HCO := Lib.hid hco
        have HSU := Lib.hid hsu
        have HC := Lib.hid (And.intro g1 g2)
        have HI := Lib.hid (And.intro hi1 (And.intro hi2 hn8))
        subst hx1 hx2
        clear hp hsu hx hy hpE hqE hg hhb g1 g2 ht1 ht2 hi1 hi2 hn8 hz1 hz2 hco
        obtain ⟨U, hU⟩ : ∃ U, wr.alloc (pairB ((i1 : Int) + 1) ((i2 : Int) + 1)) = U := ⟨_, rfl⟩
        have HBU : Hid (Below V.heap.size V U) := Lib.hid (by rw [← hU]; exact below_thn HBk.out (below_new _ _))
        have HPU : Hid (U.heap[wr.heap.size]? = some (pairB ((i1 : Int) + 1) ((i2 : Int) + 1))) := Lib.hid (by rw [← hU]; exact heap_top _ _ rfl)
        go_upto_region 8 with fail
        try rw [hU]
        clear hU c0 c1
        have x0 := heap_cell (heap_lft HXV.out HBU.out) (j := 0) rfl
        have p0 := heap_cell HPU.out (j := 0) rfl
        have p1 := heap_cell HPU.out (j := 1) rfl
        have g1 := below_cell HBU.out HC.out.1
        have g2 := below_cell HBU.out HC.out.2
        have n2 : (i1 : Int) < n := by have := HI.out.1; omega
        have n3 : (i2 : Int) < n := by have := HI.out.2.1; omega
        have n4 : ¬ (i1 : Int) < 0 := by omega
        have n5 : ¬ (i2 : Int) < 0 := by omega
        have m1 : IntKind.i64.wrap (i1 : Int) = i1 := IntWalk.i64_in _ (by have := HI.out; omega)
        have m2 : IntKind.i64.wrap (i2 : Int) = i2 := IntWalk.i64_in _ (by have := HI.out; omega)
        cases hbk
        · skip
          have xx0 := among_below x0
          have xx1 := among_below p0
          have xx2 := among_below p1
          have xx3 := among_below g1
          have xx4 := among_below g2
          have HSt : Hid (Below U.heap.size U U.drew) := Lib.hid (Below.refl _ _).drew
          have hne : Nonempty (Among (Below U.heap.size U)) := ⟨⟨_, HSt.out⟩⟩
          refine wp_region_class (Below U.heap.size U) (by kernel_rfl) (by kernel_rfl) HSt.out ?_
          repeat (go_big_quiet_step (fail))
          refine wpQuiet_nil ?_
          intro w8 hx
          have HB8 := Lib.hid (among_out hx)
          clear hx hne xx0 xx1 xx2 xx3 xx4
          go_wp2_with fail
          go_roundw
          case rel => exact ⟨k + 1, by omega, by go_num, by rw [HSU.out]; rfl, below_thn HBU.out HB8.out⟩
          case measure => simp [intOf]; omega
        · skip
          have xx0 := among_below x0
          have xx1 := among_below p0
          have xx2 := among_below p1
          have xx3 := among_below g1
          have xx4 := among_below g2
          have HC1 : Hid (∀ xq : Among (Below U.heap.size U), Calls Try.prog 24 #[.int .i64 p, .int .i64 q] xq.val fun e w' => e = .returned (.int .i64 g) ∧ ∃ y : Among (Below U.heap.size U), w' = y.val) := Lib.hid (fun xq => calls_class ((HCO.out xq.val).mono fun e w' h => ⟨h.1, below_thn xq.ok h.2⟩))
          have HSt : Hid (Below U.heap.size U U.drew) := Lib.hid (Below.refl _ _).drew
          have hne : Nonempty (Among (Below U.heap.size U)) := ⟨⟨_, HSt.out⟩⟩
          refine wp_region_class (Below U.heap.size U) (by kernel_rfl) (by kernel_rfl) HSt.out ?_
          repeat (go_big_quiet_step ((first | (go_at_call 24; with_reducible exact HC1.out _))))
          refine wpQuiet_nil ?_
          intro w8 hx
          have HB8 := Lib.hid (among_out hx)
          clear hx hne xx0 xx1 xx2 xx3 xx4
          go_wp2_with fail
          go_roundw
          case rel => exact ⟨k + 1, by omega, by go_num, by rw [HSU.out]; simp, below_thn HBU.out HB8.out⟩
          case measure => simp [intOf]; omega
      · obtain rfl : k = ln := by omega
        have n1 : ¬ (k : Int) < k := by omega
        go_wp2_with fail
        go_ret2
        exact ⟨rfl, below_thn HBV.out HBk.out⟩

set_option maxHeartbeats 16000000 in
set_option maxRecDepth 100000 in
theorem rAgain_any (a : Option Addr) (n c : Nat) (F : Nat → Int) (la : Option Addr) (ln lc : Nat) (L : Nat → Int) (hn : n ≤ 20) (hl : ln ≤ 10) (hcap : ln ≤ lc) (w : World) (hF : NumsAt w a n F) (hL : NumsAt w la (ln * 2) L) :
    Calls Try.prog 11 #[wheelsV a n c, .slice la ln lc] w (TopOut (.int .i64 (Pure.agaC n F ln L : Nat)) (Pure.gearC n F ln L) w) := by
  obtain ⟨W, hW⟩ : ∃ W, w.alloc (wheelsB a n c) = W := ⟨_, rfl⟩
  have HB0 : Hid (Below w.heap.size w W) := Lib.hid (by rw [← hW]; exact below_new _ _)
  have HX : Hid (W.heap[w.heap.size]? = some (wheelsB a n c)) := Lib.hid (by rw [← hW]; exact heap_top _ _ rfl)
  have HFF := Lib.hid (hF.below HB0.out)
  have HLL := Lib.hid (hL.below HB0.out)
  obtain ⟨code, hcode⟩ : ∃ z, Pure.gearC n F ln L = z := ⟨_, rfl⟩
  obtain ⟨xn, hxn⟩ : ∃ z, Pure.agaC n F ln L = z := ⟨_, rfl⟩
  have hrt := rRatioTop_any a n c F la ln lc L hn hl W (hF.below HB0.out) (hL.below HB0.out)
  obtain ⟨rn, hrn⟩ : ∃ z, Pure.ratN n F ln L = z := ⟨_, rfl⟩
  obtain ⟨rd, hrd⟩ : ∃ z, Pure.ratD n F ln L = z := ⟨_, rfl⟩
  rw [hrn, hrd, hcode] at hrt
  rw [hcode, hxn]
  have HCD := Lib.hid hcode
  have HXN := Lib.hid hxn
  have HRT := Lib.hid hrt
  clear hF hL hcode hxn hrn hrd hrt
  have x0 := heap_cell HX.out (j := 0) rfl
  go_enter Try.func11, Try.ntmps11
  go_upto_region 1 with fail
  try rw [hW]
  clear hW
  go_wp2_with fail
  refine HRT.out.mono ?_
  rintro e u ⟨rfl, hb⟩
  have HXu := Lib.hid (heap_lft HX.out hb)
  have HBu := Lib.hid (below_thn HB0.out hb)
  have HFu := Lib.hid (HFF.out.below hb)
  have HLu := Lib.hid (HLL.out.below hb)
  clear hb x0
  go_upto_region 2 with fail
  obtain ⟨V, hV⟩ : ∃ V, u.alloc (partB rn rd) = V := ⟨_, rfl⟩
  have hbv : Below u.heap.size u V := by rw [← hV]; exact below_new _ _
  have HXV := Lib.hid (heap_lft HXu.out hbv)
  have HBV := Lib.hid (below_thn HBu.out hbv)
  have HFV := Lib.hid (HFu.out.below hbv)
  have HLV := Lib.hid (HLu.out.below hbv)
  try rw [hV]
  clear hV hbv
  by_cases h0 : code = 0
  rotate_left
  · have hne : (code != 0) = true := by simp [h0]
    have HNE := Lib.hid h0
    clear h0
    obtain rfl : xn = 0 := by rw [← HXN.out, Pure.agaC, if_neg (by rw [HCD.out]; exact HNE.out)]
    go_wp2_with fail
    go_ret2
    exact ⟨rfl, HBV.out⟩
  · subst h0
    obtain ⟨hg1, hg2⟩ := Pure.gearC_zero HCD.out
    have HG := Lib.hid (gears_of hg1 hg2).1
    obtain rfl : xn = Pure.agN F L ln := by rw [← HXN.out, Pure.agaC, if_pos HCD.out]
    have hl20 : (ln : Int) ≤ 3 := by have := HG.out.l; omega
    have HCP := Lib.hid hcap
    clear hg1 hg2 hcap
    go_wp2_with fail
    go_loopw [8, 9, 10] (fun u i _ wr => ∃ k : Nat, k ≤ ln ∧ i = .int .i64 ((k : Int) + 1) ∧ u = .int .i64 (Pure.agN F L k : Nat) ∧ Below V.heap.size V wr) (fun _ i _ _ => ln + 1 - (intOf i).toNat)
    case atStart => exact ⟨0, Nat.zero_le _, rfl, rfl, Below.refl _ _⟩
    case round =>
      obtain ⟨k, hk, rfl, rfl, hb⟩ := hrel
      have HBk := Lib.hid hb
      clear hb
      by_cases hk1 : k < ln
      · obtain ⟨b, off, rfl, -⟩ := HLV.out (k * 2) (by omega)
        have n1 : (k : Int) + 1 ≤ ln := by omega
        have hst := HG.out.step hk1
        have hag := (HG.out.ag k (by omega)).1
        have hsu : Pure.agN F L (k + 1) = Pure.lcmN (Pure.agN F L k) (Pure.lowD (Pure.nm F L (k + 1)) (Pure.dn F L (k + 1))) := rfl
        have hrat : ∀ z, Below wr.heap.size wr z → Calls Try.prog 20 #[wheelsV a n c, .slice (some ⟨b, off, none⟩) (k + 1) lc] z _ := fun z hz => rRatio_any a n c F (some ⟨b, off, none⟩) (k + 1) lc L (HG.out.le hk1) z ((HFV.out.below HBk.out).below hz) (fun j hj => ((HLV.out.below HBk.out).below hz) j (by omega))
        obtain ⟨p, hp⟩ : ∃ z, Pure.lowN (Pure.nm F L (k + 1)) (Pure.dn F L (k + 1)) = z := ⟨_, rfl⟩
        obtain ⟨q, hq⟩ : ∃ z, Pure.lowD (Pure.nm F L (k + 1)) (Pure.dn F L (k + 1)) = z := ⟨_, rfl⟩
        obtain ⟨u9, hu⟩ : ∃ z, Pure.agN F L k = z := ⟨_, rfl⟩
        rw [hp, hq] at hrat
        rw [hq, hu] at hst hsu
        rw [hu] at hag ⊢
        have hco := common_any u9 q hst.1 hst.2.1
        have hgp := Nat.gcd_pos_of_pos_left q (show 0 < u9 by omega)
        have hdi := Pure.tdiv_nat u9 (Nat.gcd u9 q)
        have hwd := wrap_nat (x := u9 / Nat.gcd u9 q) (Nat.le_trans (Nat.div_le_self _ _) hst.1)
        have hmu := wrap_nat (x := Pure.lcmN u9 q) (Nat.le_trans Pure.lcm_le hst.2.2)
        have hpr : ((u9 / Nat.gcd u9 q : Nat) : Int) * (q : Int) = ((Pure.lcmN u9 q : Nat) : Int) := by rw [Pure.lcmN]; exact (Int.natCast_mul _ _).symm
        obtain ⟨l, hlE⟩ : ∃ z, Pure.lcmN u9 q = z := ⟨_, rfl⟩
        rw [hlE] at hmu hpr hsu
        obtain ⟨g, hgE⟩ : ∃ z, Nat.gcd u9 q = z := ⟨_, rfl⟩
        rw [hgE] at hdi hwd hpr hgp hco
        obtain ⟨d, hdE⟩ : ∃ z, u9 / g = z := ⟨_, rfl⟩
        rw [hdE] at hdi hwd hpr
        have HSU : Hid (Pure.agN F L (k + 1) = l) := Lib.hid hsu
        have HPR := Lib.hid hpr
        have HLM := Lib.hid hmu
        rw [← hpr] at hmu
        have hz : ¬ ((g : Nat) : Int) = 0 := by omega
        have HRAT := Lib.hid hrat
        have HCO := Lib.hid hco
        have HMU := Lib.hid (And.intro (And.intro hdi hwd) (And.intro hmu hz))
        clear hst hag hsu hrat hp hq hu hco hgp hdi hwd hmu hpr hlE hgE hdE hz
        have hc1 : (k : Int) + 1 ≤ lc := by have := HCP.out; omega
        have hc2 : ¬ ((k : Int) + 1 < 0) := by omega
        have hfd := partDen p q
        have x0 := heap_cell (heap_lft HXV.out HBk.out) (j := 0) rfl
        go_upto_region 8 with fail
        have xx0 := among_below x0
        have HC1 : Hid (∀ xq : Among (Below wr.heap.size wr), Calls Try.prog 20 #[wheelsV a n c, .slice (some ⟨b, off, none⟩) (k + 1) lc] xq.val fun e w' => e = .returned (partV p q) ∧ ∃ y : Among (Below wr.heap.size wr), w' = y.val) := Lib.hid (fun xq => calls_class ((HRAT.out xq.val xq.ok).mono fun e w' h => ⟨h.1, below_thn xq.ok h.2⟩))
        have HSt : Hid (Below wr.heap.size wr wr.drew) := Lib.hid (Below.refl _ _).drew
        have hne : Nonempty (Among (Below wr.heap.size wr)) := ⟨⟨_, HSt.out⟩⟩
        refine wp_region_class (Below wr.heap.size wr) (by kernel_rfl) (by kernel_rfl) HSt.out ?_
        repeat (go_big_quiet_step ((first | (go_at_call 20; with_reducible exact HC1.out _))))
        refine wpQuiet_nil ?_
        intro w8 hx
        have HB8 := Lib.hid (among_out hx)
        clear hx hne xx0
        clear x0 hfd hc1 hc2
        go_wp2_with fail
        refine (HCO.out _).mono ?_
        rintro e M ⟨rfl, hb⟩
        have HBM := Lib.hid (below_thn (below_thn HBk.out HB8.out) hb)
        clear hb
        obtain ⟨⟨hdi, hwd⟩, hmu, hz⟩ := HMU.out
        go_wp2_with fail
        go_roundw
        case rel => exact ⟨k + 1, by omega, by first | go_num | (simp; done) | omega, by rw [HSU.out]; first | rw [HPR.out] | (congr 1; exact (IntWalk.i64_left _).symm.trans HLM.out) | rfl, HBM.out⟩
        case measure => simp [intOf]; omega
      · obtain rfl : k = ln := by omega
        have n1 : ¬ ((k : Int) + 1 ≤ k) := by omega
        go_wp2_with fail
        go_ret2
        exact ⟨rfl, below_thn HBV.out HBk.out⟩

end Go.Proofs.Ytijfdfplebbaaac
