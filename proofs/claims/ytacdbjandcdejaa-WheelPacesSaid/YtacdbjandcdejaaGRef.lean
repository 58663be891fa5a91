/-
  The contracts of the specification's ratio, Ratio, Hunts and Again.
-/
import Derived.Test.YtacdbjandcdejaaGTrain
namespace Go.Proofs.Ytacdbjandcdejaa
open Go.RowKit

set_option maxHeartbeats 16000000 in
set_option maxRecDepth 100000 in
theorem rRatio_any (a : Option Addr) (n c : Nat) (F : Nat → Int) (la : Option Addr) (ln lc : Nat) (L : Nat → Int) (hG : Gears n F ln L) (w : World) (hF : NumsAt w a n F) (hL : NumsAt w la (ln * 2) L) :
    Calls Try.prog 41 #[wheelsV a n c, .slice la ln lc] w fun e w' => e = .returned (partV (Pure.lowN (Pure.nm F L ln) (Pure.dn F L ln) : Nat) (Pure.lowD (Pure.nm F L ln) (Pure.dn F L ln) : Nat)) ∧ Below w.heap.size w w' := by
  obtain ⟨W, hW⟩ : ∃ W, (w.alloc (wheelsB a n c)).alloc (partB 0 0) = W := ⟨_, rfl⟩
  have HB0 : Hid (Below w.heap.size w W) := Lib.hid (by rw [← hW]; exact (below_new _ _).alloc (by simp) _)
  have HX : Hid (W.heap[w.heap.size]? = some (wheelsB a n c)) := Lib.hid (by rw [← hW]; exact heap_up (heap_top _ _ rfl) _)
  have HT : Hid (W.heap[w.heap.size + 1]? = some (partB 0 0)) := Lib.hid (by rw [← hW]; exact heap_top _ _ (by simp))
  have HFF := Lib.hid (hF.below HB0.out)
  have HLL := Lib.hid (hL.below HB0.out)
  have HG := Lib.hid hG
  have hl20 : (ln : Int) ≤ 3 := by have := hG.l; omega
  clear hF hL hG
  go_enter Try.func41, Try.ntmps41
  go_upto_region 1 with fail
  try rw [hW]
  clear hW
  go_wp2_with fail
  go_loopw [5, 6, 8, 11] (fun u v _ i wr => ∃ k : Nat, k ≤ ln ∧ i = .int .i64 k ∧ u = .int .i64 (Pure.nm F L k : Nat) ∧ v = .int .i64 (Pure.dn F L k : Nat) ∧ Below W.heap.size W wr) (fun _ _ _ i _ => ln - (intOf i).toNat)
  case atStart => exact ⟨0, Nat.zero_le _, rfl, rfl, rfl, Below.refl _ _⟩
  case round =>
    obtain ⟨k, hk, rfl, rfl, rfl, hb⟩ := hrel
    have HBk := Lib.hid hb
    clear hb
    by_cases hk1 : k < ln
    · obtain ⟨b, off, rfl, -⟩ := HLL.out (k * 2) (by omega)
      have n1 : (k : Int) < ln := by omega
      have c0 := (HLL.out.below HBk.out).at (show k * 2 < ln * 2 by omega)
      have c1 := nums_row (HLL.out.below HBk.out) (show k * 2 + 1 < ln * 2 by omega)
      have hnm := HG.out.nm (k + 1) (by omega)
      have hpw := pow_most (k := k + 1) (by omega)
      have hsn : Pure.nm F L (k + 1) = Pure.nm F L k * Pure.tooth F (L (k * 2)) := rfl
      have hsd : Pure.dn F L (k + 1) = Pure.dn F L k * Pure.tooth F (L (k * 2 + 1)) := rfl
      have hp := HG.out.p k hk1
      obtain ⟨i1, hi1, hx1, ht1, hz1⟩ := HG.out.tooth hp.1
      obtain ⟨i2, hi2, hx2, ht2, hz2⟩ := HG.out.tooth hp.2
      clear hz1 hz2
      obtain ⟨x, hx⟩ : ∃ z, L (k * 2) = z := ⟨_, rfl⟩
      obtain ⟨y, hy⟩ : ∃ z, L (k * 2 + 1) = z := ⟨_, rfl⟩
      rw [hx] at c0 hsn hx1 ht1
      rw [hy] at c1 hsd hx2 ht2
      obtain ⟨p, hpE⟩ : ∃ z, Pure.tooth F x = z := ⟨_, rfl⟩
      obtain ⟨q, hqE⟩ : ∃ z, Pure.tooth F y = z := ⟨_, rfl⟩
      rw [hpE] at hsn ht1
      rw [hqE] at hsd ht2
      obtain ⟨un, hun⟩ : ∃ z, Pure.nm F L k = z := ⟨_, rfl⟩
      obtain ⟨vn, hvn⟩ : ∃ z, Pure.dn F L k = z := ⟨_, rfl⟩
      rw [hun] at hsn ⊢
      rw [hvn] at hsd ⊢
      have hm1 : IntKind.i64.wrap ((un : Int) * (p : Int)) = (un : Int) * (p : Int) := by
        have h := wrap_nat (x := un * p) (by rw [← hsn]; exact Nat.le_trans hnm.1.2 hpw)
        rwa [Int.natCast_mul] at h
      have hm2 : IntKind.i64.wrap ((vn : Int) * (q : Int)) = (vn : Int) * (q : Int) := by
        have h := wrap_nat (x := vn * q) (by rw [← hsd]; exact Nat.le_trans hnm.2.2 hpw)
        rwa [Int.natCast_mul] at h
      obtain ⟨ba, oa, rfl, g1⟩ := HFF.out i1 hi1
      have g2 := HFF.out.at hi2
      rw [ht1] at g1
      rw [ht2] at g2
      have hn8 := HG.out.t.1
      have HSN := Lib.hid hsn
      have HSD := Lib.hid hsd
      have HM := Lib.hid (And.intro hm1 hm2)
      have HC := Lib.hid (And.intro g1 g2)
      have HI := Lib.hid (And.intro hi1 (And.intro hi2 hn8))
      subst hx1 hx2
      clear hp hnm hpw hsn hsd hx hy hpE hqE hun hvn hm1 hm2 g1 g2 ht1 ht2 hi1 hi2 hn8
      obtain ⟨U, hU⟩ : ∃ U, wr.alloc (pairB ((i1 : Int) + 1) ((i2 : Int) + 1)) = U := ⟨_, rfl⟩
      have HBU : Hid (Below W.heap.size W U) := Lib.hid (by rw [← hU]; exact below_thn HBk.out (below_new _ _))
      have HPU : Hid (U.heap[wr.heap.size]? = some (pairB ((i1 : Int) + 1) ((i2 : Int) + 1))) := Lib.hid (by rw [← hU]; exact heap_top _ _ rfl)
      go_upto_region 5 with fail
      try rw [hU]
      clear hU c0 c1
      have x0 := heap_cell (heap_lft HX.out HBU.out) (j := 0) rfl
      have p0 := heap_cell HPU.out (j := 0) rfl
      have p1 := heap_cell HPU.out (j := 1) rfl
      have g1 := below_cell HBU.out HC.out.1
      have g2 := below_cell HBU.out HC.out.2
      have hm1 := HM.out.1
      have hm2 := HM.out.2
      have n2 : (i1 : Int) < n := by have := HI.out.1; omega
      have n3 : (i2 : Int) < n := by have := HI.out.2.1; omega
      have n4 : ¬ (i1 : Int) < 0 := by omega
      have n5 : ¬ (i2 : Int) < 0 := by omega
      have m1 : IntKind.i64.wrap (i1 : Int) = i1 := IntWalk.i64_in _ (by have := HI.out; omega)
      have m2 : IntKind.i64.wrap (i2 : Int) = i2 := IntWalk.i64_in _ (by have := HI.out; omega)
      have xx0 := among_below x0
      have xx1 := among_below p0
      have xx2 := among_below p1
      have xx3 := among_below g1
      have xx4 := among_below g2
      have HSt : Hid (Below U.heap.size U U.drew) := Lib.hid (Below.refl _ _).drew
      have hne : Nonempty (Among (Below U.heap.size U)) := ⟨⟨_, HSt.out⟩⟩
      refine wp_region_class (Below U.heap.size U) (by kernel_rfl) (by kernel_rfl) HSt.out ?_
      repeat (go_big_quiet_step (fail))
      refine wpQuiet_nil ?_
      intro w8 hx
      have HB8 := Lib.hid (among_out hx)
      clear hx hne xx0 xx1 xx2 xx3 xx4
      clear x0 p0 p1 g1 g2 n2 n3 n4 n5 m1 m2
      go_wp2_with fail
      go_roundw
      case rel => exact ⟨k + 1, by omega, by go_num, by rw [HSN.out, Int.natCast_mul], by rw [HSD.out, Int.natCast_mul], below_thn HBU.out HB8.out⟩
      case measure => simp [intOf]; omega
    · obtain rfl : k = ln := by omega
      have n1 : ¬ (k : Int) < k := by omega
      have hnm := HG.out.nm k (Nat.le_refl _)
      have hpw := pow_most (k := k) (by omega)
      have hc := common_any (Pure.nm F L k) (Pure.dn F L k) (Nat.le_trans hnm.1.2 hpw) (Nat.le_trans hnm.2.2 hpw)
      have hgp := Nat.gcd_pos_of_pos_left (Pure.dn F L k) (show 0 < Pure.nm F L k by omega)
      have hd1 := Pure.tdiv_nat (Pure.nm F L k) (Nat.gcd (Pure.nm F L k) (Pure.dn F L k))
      have hd2 := Pure.tdiv_nat (Pure.dn F L k) (Nat.gcd (Pure.nm F L k) (Pure.dn F L k))
      have hw1 := wrap_nat (x := Pure.nm F L k / Nat.gcd (Pure.nm F L k) (Pure.dn F L k)) (Nat.le_trans (Nat.div_le_self _ _) (Nat.le_trans hnm.1.2 hpw))
      have hw2 := wrap_nat (x := Pure.dn F L k / Nat.gcd (Pure.nm F L k) (Pure.dn F L k)) (Nat.le_trans (Nat.div_le_self _ _) (Nat.le_trans hnm.2.2 hpw))
      obtain ⟨un, hun⟩ : ∃ z, Pure.nm F L k = z := ⟨_, rfl⟩
      obtain ⟨vn, hvn⟩ : ∃ z, Pure.dn F L k = z := ⟨_, rfl⟩
      rw [hun, hvn] at hc hgp hd1 hd2 hw1 hw2 ⊢
      obtain ⟨g, hg⟩ : ∃ z, Nat.gcd un vn = z := ⟨_, rfl⟩
      rw [hg] at hc hgp hd1 hd2 hw1 hw2
      obtain ⟨p, hp⟩ : ∃ z, un / g = z := ⟨_, rfl⟩
      obtain ⟨q, hq⟩ : ∃ z, vn / g = z := ⟨_, rfl⟩
      rw [hp] at hd1 hw1
      rw [hq] at hd2 hw2
      have hz : ¬ g = 0 := by omega
      have HC := Lib.hid hc
      have HQ := Lib.hid (And.intro (And.intro hd1 hd2) (And.intro (And.intro hw1 hw2) hz))
      have HE : Hid (partV ((Pure.lowN (Pure.nm F L k) (Pure.dn F L k) : Nat) : Int) ((Pure.lowD (Pure.nm F L k) (Pure.dn F L k) : Nat) : Int) = partV p q) := Lib.hid (by rw [Pure.lowN, Pure.lowD, hun, hvn, hg, hp, hq])
      clear hnm hpw hc hgp hd1 hd2 hw1 hw2 hun hvn hg hp hq hz
      have HTk := Lib.hid (heap_lft HT.out HBk.out)
      have HBW := Lib.hid (below_thn HB0.out HBk.out)
      go_upto_region 7 with fail
      go_cut [] from 34 to 44 (fun wx => wx.heap[w.heap.size + 1]? = some (partB p q) ∧ Below w.heap.size w wx)
      case first =>
        rename_i J K' hJ hK'
        generalize hA : (Act.mk _ _ : Act) = a0
        have m4 : At a0 4 (.pointer (some ⟨w.heap.size + 1, 0, none⟩)) := by rw [← hA]; rfl
        have m5 : At a0 5 (.int .i64 un) := by rw [← hA]; rfl
        have m6 : At a0 6 (.int .i64 vn) := by rw [← hA]; rfl
        have hsz : 44 < a0.tmps.size := by rw [← hA]; exact of_decide_eq_true (by kernel_rfl)
        have hfin : ∀ a' w', Kept (List.range' 34 11) a0 a' → (w'.heap[w.heap.size + 1]? = some (partB p q) ∧ Below w.heap.size w w') → K' a' w' := by
          intro a' w' hI hL
          refine hK' _ _ (Met.intro (hJ _ _ ⟨a'.tmps.getD 34 undef, a'.tmps.getD 35 undef, a'.tmps.getD 36 undef, a'.tmps.getD 37 undef, a'.tmps.getD 38 undef, a'.tmps.getD 39 undef, a'.tmps.getD 40 undef, a'.tmps.getD 41 undef, a'.tmps.getD 42 undef, a'.tmps.getD 43 undef, a'.tmps.getD 44 undef, hL, hI.eq.trans ?_⟩))
          rw [← hA]
          kernel_rfl
        have hI : Kept (List.range' 34 11) a0 a0 := Kept.refl _ _
        clear hA hJ hK' J
        refine with_pan (fun d _ _ _ _ h => by cases d <;> exact h) ?_
        intro hpan
        refine wp_region_restF (fun j => j == 11) (fun z => z.heap[w.heap.size + 1]? = some (partB 0 0) ∧ Below w.heap.size w z) (by kernel_rfl) ?_
        obtain ⟨wz, hwz⟩ : ∃ x, wr.drew = x := ⟨_, rfl⟩
        change RestF _ _ _ _ _ _ _ _ (wr.drew)
        rw [hwz]
        have hq : Below wr.heap.size wr wz := by rw [← hwz]; exact (Below.refl _ _).drew
        clear hwz
        obtain ⟨⟨hd1, hd2⟩, ⟨hw1, hw2⟩, hnz⟩ := HQ.out
        have hS := And.intro (heap_lft HTk.out hq) (below_thn HBW.out hq)
        refine restF_take (k := 0) (d := 34) (v := .int .i64 un) hI rfl rfl (by kernel_rfl) (Nat.lt_of_le_of_lt (by decide) hsz) (by kernel_rfl) hpan (by kernel_rfl) hS (wanted_free rfl) (fun z hz => by have n5 := hI.at m5 (by kernel_rfl); have e5 := n5; have f5 := n5.eval; unfold At at e5; simp [go_sem, e5]) (fun a' hI' n34' hk => ?_)
        have n34 := n34'
        replace hI := hI'
        clear hk hI' n34'
        obtain ⟨act9, rfl⟩ : ∃ x, x = a' := ⟨_, rfl⟩
        refine restF_take (k := 1) (d := 35) (v := .int .i64 un) hI rfl rfl (by kernel_rfl) (Nat.lt_of_le_of_lt (by decide) hsz) (by kernel_rfl) hpan (by kernel_rfl) hS (wanted_free rfl) (fun z hz => by have n5 := hI.at m5 (by kernel_rfl); have e5 := n5; have f5 := n5.eval; unfold At at e5; simp [go_sem, e5]) (fun a' hI' n35' hk => ?_)
        replace n34 := hk _ _ n34 rfl
        have n35 := n35'
        replace hI := hI'
        clear hk hI' n35'
        obtain ⟨act9, rfl⟩ : ∃ x, x = a' := ⟨_, rfl⟩
        refine restF_take (k := 2) (d := 36) (v := .int .i64 vn) hI rfl rfl (by kernel_rfl) (Nat.lt_of_le_of_lt (by decide) hsz) (by kernel_rfl) hpan (by kernel_rfl) hS (wanted_free rfl) (fun z hz => by have n6 := hI.at m6 (by kernel_rfl); have e6 := n6; have f6 := n6.eval; unfold At at e6; simp [go_sem, e6]) (fun a' hI' n36' hk => ?_)
        replace n34 := hk _ _ n34 rfl
        replace n35 := hk _ _ n35 rfl
        have n36 := n36'
        replace hI := hI'
        clear hk hI' n36'
        obtain ⟨act9, rfl⟩ : ∃ x, x = a' := ⟨_, rfl⟩
        refine restF_take (k := 5) (d := 39) (v := .int .i64 vn) hI rfl rfl (by kernel_rfl) (Nat.lt_of_le_of_lt (by decide) hsz) (by kernel_rfl) hpan (by kernel_rfl) hS (wanted_free rfl) (fun z hz => by have n6 := hI.at m6 (by kernel_rfl); have e6 := n6; have f6 := n6.eval; unfold At at e6; simp [go_sem, e6]) (fun a' hI' n39' hk => ?_)
        replace n34 := hk _ _ n34 rfl
        replace n35 := hk _ _ n35 rfl
        replace n36 := hk _ _ n36 rfl
        have n39 := n39'
        replace hI := hI'
        clear hk hI' n39'
        obtain ⟨act9, rfl⟩ : ∃ x, x = a' := ⟨_, rfl⟩
        refine restF_take (k := 6) (d := 40) (v := .int .i64 un) hI rfl rfl (by kernel_rfl) (Nat.lt_of_le_of_lt (by decide) hsz) (by kernel_rfl) hpan (by kernel_rfl) hS (wanted_free rfl) (fun z hz => by have n5 := hI.at m5 (by kernel_rfl); have e5 := n5; have f5 := n5.eval; unfold At at e5; simp [go_sem, e5]) (fun a' hI' n40' hk => ?_)
        replace n34 := hk _ _ n34 rfl
        replace n35 := hk _ _ n35 rfl
        replace n36 := hk _ _ n36 rfl
        replace n39 := hk _ _ n39 rfl
        have n40 := n40'
        replace hI := hI'
        clear hk hI' n40'
        obtain ⟨act9, rfl⟩ : ∃ x, x = a' := ⟨_, rfl⟩
        refine restF_take (k := 7) (d := 41) (v := .int .i64 vn) hI rfl rfl (by kernel_rfl) (Nat.lt_of_le_of_lt (by decide) hsz) (by kernel_rfl) hpan (by kernel_rfl) hS (wanted_free rfl) (fun z hz => by have n6 := hI.at m6 (by kernel_rfl); have e6 := n6; have f6 := n6.eval; unfold At at e6; simp [go_sem, e6]) (fun a' hI' n41' hk => ?_)
        replace n34 := hk _ _ n34 rfl
        replace n35 := hk _ _ n35 rfl
        replace n36 := hk _ _ n36 rfl
        replace n39 := hk _ _ n39 rfl
        replace n40 := hk _ _ n40 rfl
        have n41 := n41'
        replace hI := hI'
        clear hk hI' n41'
        obtain ⟨act9, rfl⟩ : ∃ x, x = a' := ⟨_, rfl⟩
        refine restF_only (k := 3) (by kernel_rfl) (op_call (k := 3) (d := 37) (R := fun v w' => v = .int .i64 g ∧ Below wz.heap.size wz w') hI rfl rfl (by kernel_rfl) (Nat.lt_of_le_of_lt (by decide) hsz) (wanted_free rfl) ((HC.out _).mono fun e w' g => ⟨_, g.1, rfl, g.2⟩) (by have e35 := n35; have f35 := n35.eval; unfold At at e35; have e36 := n36; have f36 := n36.eval; unfold At at e36; simp [go_sem, e35, e36]) ?_)
        intro v w' a' hR hI' n37' hk
        obtain ⟨rfl, hb⟩ := hR
        refine ⟨fun _ => (And.intro (heap_lft hS.1 hb) (below_thn hS.2 hb)), ?_⟩
        replace n34 := hk _ _ n34 rfl
        replace n35 := hk _ _ n35 rfl
        replace n36 := hk _ _ n36 rfl
        replace n39 := hk _ _ n39 rfl
        replace n40 := hk _ _ n40 rfl
        replace n41 := hk _ _ n41 rfl
        have n37 := n37'
        replace hI := hI'
        clear hk hI' n37'
        obtain ⟨act9, rfl⟩ : ∃ x, x = a' := ⟨_, rfl⟩
        replace hS := And.intro (heap_lft hS.1 hb) (below_thn hS.2 hb)
        clear hb
        obtain ⟨u1, rfl⟩ : ∃ x, x = w' := ⟨_, rfl⟩
        clear n35
        clear n36
        refine restF_take (k := 4) (d := 38) (v := .int .i64 p) hI rfl rfl (by kernel_rfl) (Nat.lt_of_le_of_lt (by decide) hsz) (by kernel_rfl) hpan (by kernel_rfl) hS (wanted_free rfl) (fun z hz => by have e34 := n34; have f34 := n34.eval; unfold At at e34; have e37 := n37; have f37 := n37.eval; unfold At at e37; simp [go_sem, e34, e37, hnz, hd1, hw1]) (fun a' hI' n38' hk => ?_)
        replace n34 := hk _ _ n34 rfl
        replace n39 := hk _ _ n39 rfl
        replace n40 := hk _ _ n40 rfl
        replace n41 := hk _ _ n41 rfl
        replace n37 := hk _ _ n37 rfl
        have n38 := n38'
        replace hI := hI'
        clear hk hI' n38'
        obtain ⟨act9, rfl⟩ : ∃ x, x = a' := ⟨_, rfl⟩
        clear n34
        clear n37
        refine restF_only (k := 8) (by kernel_rfl) (op_call (k := 8) (d := 42) (R := fun v w' => v = .int .i64 g ∧ Below u1.heap.size u1 w') hI rfl rfl (by kernel_rfl) (Nat.lt_of_le_of_lt (by decide) hsz) (wanted_free rfl) ((HC.out _).mono fun e w' g => ⟨_, g.1, rfl, g.2⟩) (by have e40 := n40; have f40 := n40.eval; unfold At at e40; have e41 := n41; have f41 := n41.eval; unfold At at e41; simp [go_sem, e40, e41]) ?_)
        intro v w' a' hR hI' n42' hk
        obtain ⟨rfl, hb⟩ := hR
        refine ⟨fun _ => (And.intro (heap_lft hS.1 hb) (below_thn hS.2 hb)), ?_⟩
        replace n39 := hk _ _ n39 rfl
        replace n40 := hk _ _ n40 rfl
        replace n41 := hk _ _ n41 rfl
        replace n38 := hk _ _ n38 rfl
        have n42 := n42'
        replace hI := hI'
        clear hk hI' n42'
        obtain ⟨act9, rfl⟩ : ∃ x, x = a' := ⟨_, rfl⟩
        replace hS := And.intro (heap_lft hS.1 hb) (below_thn hS.2 hb)
        clear hb
        obtain ⟨u2, rfl⟩ : ∃ x, x = w' := ⟨_, rfl⟩
        clear n40
        clear n41
        refine restF_take (k := 9) (d := 43) (v := .int .i64 q) hI rfl rfl (by kernel_rfl) (Nat.lt_of_le_of_lt (by decide) hsz) (by kernel_rfl) hpan (by kernel_rfl) hS (wanted_free rfl) (fun z hz => by have e39 := n39; have f39 := n39.eval; unfold At at e39; have e42 := n42; have f42 := n42.eval; unfold At at e42; simp [go_sem, e39, e42, hnz, hd2, hw2]) (fun a' hI' n43' hk => ?_)
        replace n39 := hk _ _ n39 rfl
        replace n38 := hk _ _ n38 rfl
        replace n42 := hk _ _ n42 rfl
        have n43 := n43'
        replace hI := hI'
        clear hk hI' n43'
        obtain ⟨act9, rfl⟩ : ∃ x, x = a' := ⟨_, rfl⟩
        clear n39
        clear n42
        refine restF_take (k := 10) (d := 44) (v := partV p q) hI rfl rfl (by kernel_rfl) (Nat.lt_of_le_of_lt (by decide) hsz) (by kernel_rfl) hpan (by kernel_rfl) hS (wanted_free rfl) (fun z hz => by have e38 := n38; have f38 := n38.eval; unfold At at e38; have e43 := n43; have f43 := n43.eval; unfold At at e43; simp [go_sem, e38, e43]) (fun a' hI' n44' hk => ?_)
        replace n38 := hk _ _ n38 rfl
        replace n43 := hk _ _ n43 rfl
        have n44 := n44'
        replace hI := hI'
        clear hk hI' n44'
        obtain ⟨act9, rfl⟩ : ∃ x, x = a' := ⟨_, rfl⟩
        clear n38
        clear n43
        have hty := hS.1
        obtain ⟨Y, hY⟩ : ∃ Y, (u2.setCell ⟨w.heap.size + 1, 0, none⟩ (.int .i64 p)).setCell ⟨w.heap.size + 1, 1, none⟩ (.int .i64 q) = Y := ⟨_, rfl⟩
        refine restF_only (k := 11) (by kernel_rfl) (op_store (k := 11) rfl rfl (wanted_free rfl) (by have n4 := hI.at m4 (by kernel_rfl); have e4 := n4; have f4 := n4.eval; unfold At at e4; have e44 := n44; have f44 := n44.eval; unfold At at e44; have k2 := heap_cell hty (j := 0) rfl; have k3 := heap_cell hty (j := 1) rfl; have f2 := heap_frozen hty 0; have f3 := heap_frozen hty 1; simp [go_sem, e4, e44, k2, k3, f2, f3]; try rfl) ⟨(fun hf => by cases hf), ?_⟩)
        refine restF_done (by kernel_rfl) ?_
        rw [hY]
        refine hfin _ _ hI ⟨?_, ?_⟩
        · rw [← hY]; exact heap_set (heap_set hty 0 _) 1 _
        · rw [← hY]; exact (hS.2.setCell (by simp) _).setCell (by simp) _
      case rest =>
        obtain ⟨M, rfl⟩ : ∃ z, z = wc := ⟨_, rfl⟩
        obtain ⟨h1, h2⟩ := hcut
        have HTM := Lib.hid h1
        have HBM := Lib.hid h2
        clear h1 h2
        have t0 := heap_cell HTM.out (j := 0) rfl
        have t1 := heap_cell HTM.out (j := 1) rfl
        go_wp2_with fail
        refine bodyPost_ret (v := partV p q) (by simp [results, Try.results41, go_sem, t0, t1]; try rfl) rfl ⟨by first | rw [HE.out] | exact congrArg Ending.returned HE.out.symm, HBM.out⟩

set_option maxHeartbeats 4000000 in
set_option maxRecDepth 100000 in
theorem rRatioTop_any (a : Option Addr) (n c : Nat) (F : Nat → Int) (la : Option Addr) (ln lc : Nat) (L : Nat → Int) (hn : n ≤ 20) (hl : ln ≤ 10) (w : World) (hF : NumsAt w a n F) (hL : NumsAt w la (ln * 2) L) :
    Calls Try.prog 22 #[wheelsV a n c, .slice la ln lc] w (TopOut (partV (Pure.ratN n F ln L : Nat) (Pure.ratD n F ln L : Nat)) (Pure.gearC n F ln L) w) := by
  obtain ⟨W, hW⟩ : ∃ W, (w.alloc (wheelsB a n c)).alloc (partB 0 0) = W := ⟨_, rfl⟩
  have HB0 : Hid (Below w.heap.size w W) := Lib.hid (by rw [← hW]; exact (below_new _ _).alloc (by simp) _)
  have HX : Hid (W.heap[w.heap.size]? = some (wheelsB a n c)) := Lib.hid (by rw [← hW]; exact heap_up (heap_top _ _ rfl) _)
  have HT : Hid (W.heap[w.heap.size + 1]? = some (partB 0 0)) := Lib.hid (by rw [← hW]; exact heap_top _ _ (by simp))
  have HFF := Lib.hid (hF.below HB0.out)
  have HLL := Lib.hid (hL.below HB0.out)
  clear hF hL
  obtain ⟨code, hcode⟩ : ∃ z, Pure.gearC n F ln L = z := ⟨_, rfl⟩
  obtain ⟨xn, hxn⟩ : ∃ z, Pure.ratN n F ln L = z := ⟨_, rfl⟩
  obtain ⟨xd, hxd⟩ : ∃ z, Pure.ratD n F ln L = z := ⟨_, rfl⟩
  rw [hcode, hxn, hxd]
  have HCD := Lib.hid hcode
  have HXN := Lib.hid (And.intro hxn hxd)
  clear hcode hxn hxd
  have x0 := heap_cell HX.out (j := 0) rfl
  go_enter Try.func22, Try.ntmps22
  go_upto_region 1 with fail
  try rw [hW]
  clear hW
  go_wp2_with fail
  refine (rWheels_any a n c F hn _ HFF.out).mono ?_
  rintro e u ⟨rfl, hb⟩
  have HXu := Lib.hid (heap_lft HX.out hb)
  have HTu := Lib.hid (heap_lft HT.out hb)
  have HBu := Lib.hid (below_thn HB0.out hb)
  have HFu := Lib.hid (HFF.out.below hb)
  have HLu := Lib.hid (HLL.out.below hb)
  clear hb x0
  obtain ⟨r, hr⟩ : ∃ z, Pure.teethB n F = z := ⟨_, rfl⟩
  rw [hr]
  have HR := Lib.hid hr
  clear hr
  cases r
  · obtain rfl : code = 100 := by rw [← HCD.out]; simp [Pure.gearC, HR.out]
    obtain rfl : xn = 0 := by rw [← HXN.out.1, Pure.ratN, if_neg (by rw [HCD.out]; decide)]
    obtain rfl : xd = 0 := by rw [← HXN.out.2, Pure.ratD, if_neg (by rw [HCD.out]; decide)]
    have t0 := heap_cell HTu.out (j := 0) rfl
    have t1 := heap_cell HTu.out (j := 1) rfl
    have f0 := heap_frozen HTu.out 0
    have f1 := heap_frozen HTu.out 1
    go_wp2_with fail
    refine bodyPost_ret (v := .tuple #[partV 0 0, .int .i64 100]) (by simp [results, Try.results22, go_sem, t0, t1]; try rfl) rfl ⟨rfl, ?_⟩
    repeat (first | with_reducible exact HBu.out | with_reducible refine Below.setCell ?_ (by simp) _)
  · have x0 := heap_cell HXu.out (j := 0) rfl
    have hn8 := (Pure.teethB_iff.1 HR.out).1
    go_wp2_with fail
    refine (rTrain_any a n c la ln lc L hn8 hl _ HLu.out).mono ?_
    rintro e V ⟨rfl, hb⟩
    have HXV := Lib.hid (heap_lft HXu.out hb)
    have HTV := Lib.hid (heap_lft HTu.out hb)
    have HBV := Lib.hid (below_thn HBu.out hb)
    have HFV := Lib.hid (HFu.out.below hb)
    have HLV := Lib.hid (HLu.out.below hb)
    clear hb x0
    obtain ⟨r2, hr2⟩ : ∃ z, Pure.trainB n ln L = z := ⟨_, rfl⟩
    rw [hr2]
    have HR2 := Lib.hid hr2
    clear hr2
    cases r2
    · obtain rfl : code = 101 := by rw [← HCD.out]; simp [Pure.gearC, HR.out, HR2.out, Pure.err]
      obtain rfl : xn = 0 := by rw [← HXN.out.1, Pure.ratN, if_neg (by rw [HCD.out]; decide)]
      obtain rfl : xd = 0 := by rw [← HXN.out.2, Pure.ratD, if_neg (by rw [HCD.out]; decide)]
      have t0 := heap_cell HTV.out (j := 0) rfl
      have t1 := heap_cell HTV.out (j := 1) rfl
      have f0 := heap_frozen HTV.out 0
      have f1 := heap_frozen HTV.out 1
      go_wp2_with fail
      refine bodyPost_ret (v := .tuple #[partV 0 0, .int .i64 101]) (by simp [results, Try.results22, go_sem, t0, t1]; try rfl) rfl ⟨rfl, ?_⟩
      repeat (first | with_reducible exact HBV.out | with_reducible refine Below.setCell ?_ (by simp) _)
    · obtain rfl : code = 0 := by rw [← HCD.out]; simp [Pure.gearC, HR.out, HR2.out, Pure.err]
      have hra := rRatio_any a n c F la ln lc L (gears_of HR.out HR2.out).1 V HFV.out HLV.out
      obtain ⟨p, hp⟩ : ∃ z, Pure.lowN (Pure.nm F L ln) (Pure.dn F L ln) = z := ⟨_, rfl⟩
      obtain ⟨q, hq⟩ : ∃ z, Pure.lowD (Pure.nm F L ln) (Pure.dn F L ln) = z := ⟨_, rfl⟩
      rw [hp, hq] at hra
      obtain rfl : xn = p := by rw [← HXN.out.1, Pure.ratN, if_pos HCD.out, hp]
      obtain rfl : xd = q := by rw [← HXN.out.2, Pure.ratD, if_pos HCD.out, hq]
      have HRA := Lib.hid hra
      clear hra hp hq
      have x0 := heap_cell HXV.out (j := 0) rfl
      go_wp2_with fail
      refine HRA.out.mono ?_
      rintro e M ⟨rfl, hb⟩
      have HTM := Lib.hid (heap_lft HTV.out hb)
      have HBM := Lib.hid (below_thn HBV.out hb)
      clear hb x0
      have t0 := heap_cell HTM.out (j := 0) rfl
      have t1 := heap_cell HTM.out (j := 1) rfl
      have f0 := heap_frozen HTM.out 0
      have f1 := heap_frozen HTM.out 1
      go_wp2_with fail
      refine bodyPost_ret (v := .tuple #[partV xn xd, .int .i64 0]) (by simp [results, Try.results22, go_sem, t0, t1]; try rfl) rfl ⟨rfl, ?_⟩
      repeat (first | with_reducible exact HBM.out | with_reducible refine Below.setCell ?_ (by simp) _)

end Go.Proofs.Ytacdbjandcdejaa
