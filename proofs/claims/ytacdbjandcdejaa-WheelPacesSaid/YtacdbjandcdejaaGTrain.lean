/-
  The contracts of the specification's Train, ratio, Ratio, Hunts and Again.
-/
import Derived.Test.YtacdbjandcdejaaGTop
namespace Go.Proofs.Ytacdbjandcdejaa
open Go.RowKit

theorem grown_set {w u : World} {b : Nat} (h : w.grownBy u (some b)) (i : Nat) (v : Value) : w.grownBy (u.setCell ⟨b, i, none⟩ v) (some b) :=
  have hs : Below b u (u.setCell ⟨b, i, none⟩ v) := (Below.refl b u).setCell (Nat.le_refl _) v
  ⟨hs.os.trans h.os, hs.tape.trans h.tape, hs.output.trans h.output, Nat.le_trans h.size hs.size, fun k hk hr => (Below.heap_setCell _ _ _ _ (fun e => hr (by rw [e]))).trans (h.block k hk hr)⟩
/-- Block b is nine Bools. -/
def UsedAt (w : World) (b : Nat) (U : Int → Bool) : Prop := ∃ arr : Array Value, w.heap[b]? = some (.cells arr 99) ∧ arr.size = 9 ∧ ∀ i : Nat, i < 9 → arr[i]? = some (.bool (U i))
theorem UsedAt.heap {w w' : World} {b : Nat} {U : Int → Bool} (h : UsedAt w b U) (hb : w'.heap[b]? = w.heap[b]?) : UsedAt w' b U := by
  obtain ⟨arr, h1, h2⟩ := h
  exact ⟨arr, hb.trans h1, h2⟩
theorem UsedAt.lt {w : World} {b : Nat} {U : Int → Bool} (h : UsedAt w b U) : b < w.heap.size := by
  obtain ⟨arr, h1, _⟩ := h
  exact (Array.getElem?_eq_some_iff.1 h1).1
theorem UsedAt.below {w w' : World} {b : Nat} {U : Int → Bool} (h : UsedAt w b U) (hb : Below w.heap.size w w') : UsedAt w' b U := h.heap (hb.block _ h.lt)
theorem UsedAt.cell {w : World} {b : Nat} {U : Int → Bool} (h : UsedAt w b U) {i : Nat} (hi : i < 9) : w.cell? ⟨b, i, none⟩ = some (.bool (U i)) ∧ w.frozen? ⟨b, i, none⟩ = false := by
  obtain ⟨arr, h1, _, h3⟩ := h
  exact ⟨heap_cell h1 (h3 i hi), heap_frozen h1 i⟩
theorem UsedAt.set {w : World} {b : Nat} {U T : Int → Bool} (h : UsedAt w b U) {i : Nat} (hi : i < 9) (hT : ∀ j : Nat, j < 9 → T j = (U j || decide (j = i))) : UsedAt (w.setCell ⟨b, i, none⟩ (.bool true)) b T := by
  obtain ⟨arr, h1, h2, h3⟩ := h
  refine ⟨_, heap_set h1 i _, by simpa using h2, fun j hj => ?_⟩
  rw [hT j hj, Array.getElem?_setIfInBounds]
  by_cases e : i = j
  · subst e
    rw [if_pos rfl, if_pos (by omega)]
    simp
  · rw [if_neg e, h3 j hj]
    simp [show ¬ j = i from fun g => e g.symm]
theorem used_made (w : World) {b : Nat} (hb : b = w.heap.size) : UsedAt (w.alloc (.cells #[.bool false, .bool false, .bool false, .bool false, .bool false, .bool false, .bool false, .bool false, .bool false] 99)) b (fun _ => false) := by
  subst hb
  refine ⟨_, heap_top _ _ rfl, rfl, fun i hi => ?_⟩
  have h9 : i = 0 ∨ i = 1 ∨ i = 2 ∨ i = 3 ∨ i = 4 ∨ i = 5 ∨ i = 6 ∨ i = 7 ∨ i = 8 := by omega
  rcases h9 with rfl | rfl | rfl | rfl | rfl | rfl | rfl | rfl | rfl <;> rfl
namespace Pure
/-- Used by the pairs ahead, and by q wheels of this one. -/
def usedQ (L : Nat → Int) (k q : Nat) : Int → Bool := fun z => (usedB L k z || (decide (1 ≤ q) && (L (k * 2) == z))) || (decide (2 ≤ q) && (L (k * 2 + 1) == z))
theorem beq_nat (v j : Nat) : ((v : Int) == (j : Int)) = decide (j = v) := by
  by_cases h : j = v
  · subst h; simp
  · have h1 : ¬ (v : Int) = j := by omega
    rw [decide_eq_false h]
    simpa using h1
theorem usedQ_two (L : Nat → Int) (k : Nat) (z : Int) : usedQ L k 2 z = usedB L (k + 1) z := by
  rw [usedB_succ]
  simp [usedQ, Bool.or_assoc]
theorem usedQ_zero (L : Nat → Int) (k : Nat) (z : Int) : usedQ L k 0 z = usedB L k z := by simp [usedQ]
theorem trainB_no {n ln : Nat} {L : Nat → Int} {k : Nat} (hk : k < ln) (h : okP n L k = false) : trainB n ln L = false := by
  unfold trainB
  rw [pairsB_no hk h, Bool.and_false]
theorem okP_iff {n : Nat} {L : Nat → Int} {k : Nat} : okP n L k = true ↔ (1 ≤ L (k * 2) ∧ L (k * 2) ≤ (n : Int) ∧ usedQ L k 0 (L (k * 2)) = false) ∧ (1 ≤ L (k * 2 + 1) ∧ L (k * 2 + 1) ≤ (n : Int) ∧ usedQ L k 1 (L (k * 2 + 1)) = false) := by
  unfold okP both freeB usedQ
  simp only [Bool.and_eq_true, decide_eq_true_eq, Bool.not_eq_true', Bool.or_eq_false_iff]
  simp
  constructor
  · rintro ⟨h0, ⟨⟨h1, h2⟩, h3⟩, ⟨h4, h5⟩, h6⟩
    exact ⟨⟨h1, h2, h3⟩, h4, h5, h6, h0⟩
  · rintro ⟨⟨h1, h2, h3⟩, h4, h5, h6, h0⟩
    exact ⟨h0, ⟨⟨h1, h2⟩, h3⟩, ⟨h4, h5⟩, h6⟩
end Pure

set_option maxHeartbeats 16000000 in
set_option maxRecDepth 100000 in
theorem rTrain_any (a : Option Addr) (n c : Nat) (la : Option Addr) (ln lc : Nat) (L : Nat → Int) (hn : n ≤ 8) (hl : ln ≤ 10) (w : World) (hL : NumsAt w la (ln * 2) L) :
    Calls Try.prog 40 #[wheelsV a n c, .slice la ln lc] w fun e w' => e = .returned (.bool (Pure.trainB n ln L)) ∧ Below w.heap.size w w' := by
  obtain ⟨W, hW⟩ : ∃ W, w.alloc (wheelsB a n c) = W := ⟨_, rfl⟩
  have HB0 : Hid (Below w.heap.size w W) := Lib.hid (by rw [← hW]; exact below_new _ _)
  have HX : Hid (W.heap[w.heap.size]? = some (wheelsB a n c)) := Lib.hid (by rw [← hW]; exact heap_top _ _ rfl)
  have HSZ : Hid (W.heap.size = w.heap.size + 1) := Lib.hid (by rw [← hW]; simp)
  have HLL := Lib.hid (hL.below HB0.out)
  clear hL
  obtain ⟨r1, hr1⟩ : ∃ z, decide (1 ≤ (ln : Int) ∧ (ln : Int) ≤ 3) = z := ⟨_, rfl⟩
  have HR1 := Lib.hid hr1
  clear hr1
  go_enter Try.func40, Try.ntmps40
  go_upto_region 1 with fail
  try rw [hW]
  clear hW
  go_wp2_with fail
  refine (rWithinEG ln 1 3 r1 HR1.out _).mono ?_
  rintro e w' ⟨rfl, rfl⟩
  cases r1
  · go_wp2_with fail
    go_ret
    exact ⟨ret_bool (by unfold Pure.trainB; rw [HR1.out]; rfl), HB0.out⟩
  · obtain ⟨V, hV⟩ : ∃ V, W.alloc (.cells #[.bool false, .bool false, .bool false, .bool false, .bool false, .bool false, .bool false, .bool false, .bool false] 99) = V := ⟨_, rfl⟩
    have hbv : Below W.heap.size W V := by rw [← hV]; exact below_new _ _
    have HU : Hid (UsedAt V W.heap.size (Pure.usedB L 0)) := Lib.hid (by rw [← hV]; exact used_made _ rfl)
    have HXV := Lib.hid (heap_lft HX.out hbv)
    have HBV := Lib.hid (below_thn HB0.out hbv)
    have HLV := Lib.hid (HLL.out.below hbv)
    have HNE : Hid (∀ x, la = some x → 0 < ln * 2 → x.block ≠ W.heap.size) := Lib.hid (fun x hx h0 => by
      obtain ⟨b, off, g0, g1⟩ := HLL.out 0 h0
      rw [hx] at g0
      cases g0
      have := World.block_lt_of_cell? W _ g1
      dsimp only at this ⊢
      omega)
    have HWV := Lib.hid hbv
    clear hbv
    go_upto_region 4 with fail
    try rw [hV]
    clear hV
    go_wp2_with fail
    go_loopw [7, 9, 16] (fun _ _ i wr => ∃ k : Nat, k ≤ ln ∧ i = .int .i64 k ∧ (∀ j, j < k → Pure.okP n L j = true) ∧ UsedAt wr W.heap.size (Pure.usedB L k) ∧ V.grownBy wr (some W.heap.size)) (fun _ _ i _ => ln - (intOf i).toNat)
    case atStart => exact ⟨0, Nat.zero_le _, rfl, fun j hj => by omega, HU.out, grown_refl _ _⟩
    case round =>
      obtain ⟨k, hk, rfl, hq, hu, hg⟩ := hrel
      have HQ := Lib.hid hq
      have HUk := Lib.hid hu
      have HGk := Lib.hid hg
      have HXk := Lib.hid (grown_heap hg HXV.out (by have := HSZ.out; omega))
      have HLk := Lib.hid (nums_grown HLV.out hg HNE.out)
      clear hq hu hg
      by_cases hk1 : k < ln
      · obtain ⟨b, off, rfl, -⟩ := HLk.out (k * 2) (by omega)
        have n1 : (k : Int) < ln := by omega
        have c0 := HLk.out.at (show k * 2 < ln * 2 by omega)
        have c1 := nums_row HLk.out (show k * 2 + 1 < ln * 2 by omega)
        obtain ⟨x, hx⟩ : ∃ z, L (k * 2) = z := ⟨_, rfl⟩
        obtain ⟨y, hy⟩ : ∃ z, L (k * 2 + 1) = z := ⟨_, rfl⟩
        rw [hx] at c0
        rw [hy] at c1
        have HXY := Lib.hid (And.intro hx hy)
        clear hx hy
        obtain ⟨U, hU⟩ : ∃ U, wr.alloc (pairB x y) = U := ⟨_, rfl⟩
        have hbu : Below wr.heap.size wr U := by rw [← hU]; exact below_new _ _
        have HPU : Hid (U.heap[wr.heap.size]? = some (pairB x y)) := Lib.hid (by rw [← hU]; exact heap_top _ _ rfl)
        obtain ⟨T, hT⟩ : ∃ T, U.alloc (.cells #[.int .i64 x, .int .i64 y] 3) = T := ⟨_, rfl⟩
        have hbt : Below U.heap.size U T := by rw [← hT]; exact below_new _ _
        have HST : Hid (T.heap[U.heap.size]? = some (.cells #[.int .i64 x, .int .i64 y] 3)) := Lib.hid (by rw [← hT]; exact heap_top _ _ rfl)
        have HXT := Lib.hid (heap_lft (heap_lft HXk.out hbu) hbt)
        have HUT : Hid (UsedAt T W.heap.size (Pure.usedQ L k 0)) := Lib.hid (by
          have h := (HUk.out.below hbu).below hbt
          rwa [← funext (Pure.usedQ_zero L k)] at h)
        have HGT : Hid (V.grownBy T (some W.heap.size)) := Lib.hid (grown_trans HGk.out (grown_trans (grown_below hbu) (grown_below hbt)))
        have HNB : Hid (U.heap.size ≠ W.heap.size) := Lib.hid (by have h1 := HUk.out.lt; have h2 := hbu.size; omega)
        clear hbu hbt
        go_upto_region 7 with fail
        try rw [hU]
        have p0 := heap_cell HPU.out (j := 0) rfl
        have p1 := heap_cell HPU.out (j := 1) rfl
        clear c0 c1
        go_upto_region 8 with fail
        try rw [hU]
        try rw [hT]
        clear hU hT p0 p1
        obtain ⟨wo, rfl⟩ : ∃ x, x = wr := ⟨_, rfl⟩
        go_loopw [9, 26] (fun _ i wx => ∃ q : Nat, q ≤ 2 ∧ i = .int .i64 q ∧ (1 ≤ q → 1 ≤ x ∧ x ≤ (n : Int) ∧ Pure.usedQ L k 0 x = false) ∧ (2 ≤ q → 1 ≤ y ∧ y ≤ (n : Int) ∧ Pure.usedQ L k 1 y = false) ∧ UsedAt wx W.heap.size (Pure.usedQ L k q) ∧ T.grownBy wx (some W.heap.size)) (fun _ i _ => 2 - (intOf i).toNat)
        case atStart => exact ⟨0, by omega, rfl, fun h => absurd h (by omega), fun h => absurd h (by omega), HUT.out, grown_refl _ _⟩
        case round =>
          obtain ⟨q, hq2, rfl, ha, hb, hu, hg⟩ := hrel
          have HA := Lib.hid ha
          have HBq := Lib.hid hb
          have HUq := Lib.hid hu
          have HGq := Lib.hid hg
          have HXq := Lib.hid (grown_heap hg HXT.out (by have := HSZ.out; omega))
          have HSq := Lib.hid (grown_heap hg HST.out HNB.out)
          clear ha hb hu hg
          have hq3 : q = 0 ∨ q = 1 ∨ q = 2 := by omega
          rcases hq3 with rfl | rfl | rfl
          · have s0 := heap_cell HSq.out (j := 0) rfl
            have x0 := heap_cell HXq.out (j := 0) rfl
            obtain ⟨s1, hs1⟩ : ∃ r, decide (1 ≤ x ∧ x ≤ (n : Int)) = r := ⟨_, rfl⟩
            have HS1 := Lib.hid hs1
            clear hs1
            go_wp2_with fail
            refine (rWithinEG x 1 n s1 HS1.out _).mono ?_
            rintro e w' ⟨rfl, rfl⟩
            cases s1
            · go_wp2_with fail
              go_ret
              exact ⟨ret_bool (Pure.trainB_no hk1 (by
                cases e : Pure.okP n L k with
                | false => rfl
                | true =>
                  have h1 := of_decide_eq_false HS1.out
                  have h2 := (Pure.okP_iff.1 e).1
                  rw [HXY.out.1] at h2
                  exact absurd ⟨h2.1, h2.2.1⟩ h1)).symm, HB0.out.grown (grown_trans (grown_below HWV.out) (grown_trans HGT.out HGq.out)) HB0.out.size (fun j e => by cases e; exact HB0.out.size)⟩
            · obtain ⟨v, hv⟩ : ∃ v : Nat, x = v := ⟨(x).toNat, by have := of_decide_eq_true HS1.out; omega⟩
              have hv9 : v < 9 := by have := of_decide_eq_true HS1.out; omega
              obtain ⟨u0, uf⟩ := HUq.out.cell hv9
              obtain ⟨r, hr⟩ : ∃ z, Pure.usedQ L k 0 x = z := ⟨_, rfl⟩
              have hr' : Pure.usedQ L k 0 (v : Int) = r := by rw [← hv, hr]
              rw [hr'] at u0
              have HR := Lib.hid hr
              have HV := Lib.hid hv
              have HV9 := Lib.hid hv9
              have hv8 : (v : Int) < 9 := by omega
              subst hv
              clear hr hr'
              cases r
              · go_wp2_with fail
                go_roundw
                case rel => exact ⟨1, by omega, rfl, fun _ => by have h := of_decide_eq_true HS1.out; exact ⟨h.1, h.2, HR.out⟩, fun h => absurd h (by omega), HUq.out.set HV9.out (fun j hj => by rw [Pure.usedQ, Pure.usedQ, HXY.out.1, Pure.beq_nat]; simp), grown_set HGq.out _ _⟩
                case measure => simp [intOf]
              · go_wp2_with fail
                go_ret
                exact ⟨ret_bool (Pure.trainB_no hk1 (by
                  cases e : Pure.okP n L k with
                  | false => rfl
                  | true =>
                    have h2 := (Pure.okP_iff.1 e).1
                    rw [HXY.out.1] at h2
                    rw [h2.2.2] at HR
                    exact absurd HR.out (by decide))).symm, HB0.out.grown (grown_trans (grown_below HWV.out) (grown_trans HGT.out HGq.out)) HB0.out.size (fun j e => by cases e; exact HB0.out.size)⟩
          · have s0 := heap_cell HSq.out (j := 1) rfl
            have x0 := heap_cell HXq.out (j := 0) rfl
            obtain ⟨s1, hs1⟩ : ∃ r, decide (1 ≤ y ∧ y ≤ (n : Int)) = r := ⟨_, rfl⟩
            have HS1 := Lib.hid hs1
            clear hs1
            go_wp2_with fail
            refine (rWithinEG y 1 n s1 HS1.out _).mono ?_
            rintro e w' ⟨rfl, rfl⟩
            cases s1
            · go_wp2_with fail
              go_ret
              exact ⟨ret_bool (Pure.trainB_no hk1 (by
                cases e : Pure.okP n L k with
                | false => rfl
                | true =>
                  have h1 := of_decide_eq_false HS1.out
                  have h2 := (Pure.okP_iff.1 e).2
                  rw [HXY.out.2] at h2
                  exact absurd ⟨h2.1, h2.2.1⟩ h1)).symm, HB0.out.grown (grown_trans (grown_below HWV.out) (grown_trans HGT.out HGq.out)) HB0.out.size (fun j e => by cases e; exact HB0.out.size)⟩
            · obtain ⟨v, hv⟩ : ∃ v : Nat, y = v := ⟨(y).toNat, by have := of_decide_eq_true HS1.out; omega⟩
              have hv9 : v < 9 := by have := of_decide_eq_true HS1.out; omega
              obtain ⟨u0, uf⟩ := HUq.out.cell hv9
              obtain ⟨r, hr⟩ : ∃ z, Pure.usedQ L k 1 y = z := ⟨_, rfl⟩
              have hr' : Pure.usedQ L k 1 (v : Int) = r := by rw [← hv, hr]
              rw [hr'] at u0
              have HR := Lib.hid hr
              have HV := Lib.hid hv
              have HV9 := Lib.hid hv9
              have hv8 : (v : Int) < 9 := by omega
              subst hv
              clear hr hr'
              cases r
              · go_wp2_with fail
                go_roundw
                case rel => exact ⟨2, by omega, rfl, fun _ => HA.out (by omega), fun _ => by have h := of_decide_eq_true HS1.out; exact ⟨h.1, h.2, HR.out⟩, HUq.out.set HV9.out (fun j hj => by rw [Pure.usedQ, Pure.usedQ, HXY.out.2, Pure.beq_nat]; simp), grown_set HGq.out _ _⟩
                case measure => simp [intOf]
              · go_wp2_with fail
                go_ret
                exact ⟨ret_bool (Pure.trainB_no hk1 (by
                  cases e : Pure.okP n L k with
                  | false => rfl
                  | true =>
                    have h2 := (Pure.okP_iff.1 e).2
                    rw [HXY.out.2] at h2
                    rw [h2.2.2] at HR
                    exact absurd HR.out (by decide))).symm, HB0.out.grown (grown_trans (grown_below HWV.out) (grown_trans HGT.out HGq.out)) HB0.out.size (fun j e => by cases e; exact HB0.out.size)⟩
          · go_wp2_with fail
            go_roundw
            case rel => exact ⟨k + 1, by omega, by go_num, fun j hj => by
              by_cases e : j = k
              · subst e
                refine Pure.okP_iff.2 ⟨?_, ?_⟩
                · rw [HXY.out.1]; exact HA.out (by omega)
                · rw [HXY.out.2]; exact HBq.out (by omega)
              · exact HQ.out j (by omega), by have h := HUq.out; rwa [funext (Pure.usedQ_two L k)] at h, grown_trans HGT.out HGq.out⟩
            case measure => simp [intOf]; omega
      · obtain rfl : k = ln := by omega
        have n1 : ¬ (k : Int) < k := by omega
        go_wp2_with fail
        go_ret
        exact ⟨ret_bool (by unfold Pure.trainB; rw [HR1.out, Pure.pairsB_iff.2 HQ.out]; rfl), HB0.out.grown (grown_trans (grown_below HWV.out) HGk.out) HB0.out.size (fun j e => by cases e; exact HB0.out.size)⟩

end Go.Proofs.Ytacdbjandcdejaa
