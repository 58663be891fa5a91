/-
  The contract of slices.SortStableFunc at arrivals, of which all but the last stand in order.
-/
import Derived.Test.YtknpdjbokgenpaaPSell
import Derived.BigRegion
namespace Go.Proofs.Ytknpdjbokgenpaa
open Go.RowKit

namespace Pure
/-- What stands while the x-th is brought to its place, and is at y. -/
def sortC (A X : Nat → Int) (n x y : Nat) : Nat → Int := fun q => if x < n then joinF A (n * 2) X q else insA A y X q
theorem sortC_here {A X : Nat → Int} {n : Nat} {q : Nat} (hq : q < (n + 1) * 2) : insA A n X q = joinF A (n * 2) X q := by
  unfold insA joinF
  by_cases h : q < n * 2
  · rw [if_pos h, if_pos h]
  · rw [if_neg h, if_neg h, if_pos (by omega)]
end Pure
theorem BelowBut.drewn {base g : Nat} {w u : World} (h : BelowBut base g w u) : BelowBut base g w u.drew := ⟨h.b.drew, h.o⟩

set_option maxHeartbeats 8000000 in
set_option maxRecDepth 100000 in
theorem ins_any (g cap n : Nat) (A X : Nat → Int) (base : Nat) (hl : n ≤ 38) (w : World) (hbase : base ≤ w.heap.size) (h : OwnNums w base 30 2 (some ⟨g, 0, none⟩) (n + 1) cap (joinF A (n * 2) X)) (hord : ∀ y x, x < y → y < n → A (x * 2) ≤ A (y * 2)) :
    Calls Try.prog 47 #[.slice (some ⟨g, 0, none⟩) (n + 1) cap, .int .i64 0, .int .i64 ((n : Int) + 1), .func (.func 27) #[] #[]] w fun e w' => (∃ v, e = .returned v) ∧ BelowBut base g w w' ∧ ∃ k, IsPlaceA A (X 0) n k ∧ OwnNums w' base 30 2 (some ⟨g, 0, none⟩) (n + 1) cap (Pure.insA A k X) := by
  obtain ⟨hlen, ⟨h0, _⟩ | ⟨g', cap', cur0, hs, hg, hcur, hlc, hcm, hsz, htk⟩⟩ := h
  · cases h0
  simp only [Value.slice.injEq, Option.some.injEq, Addr.mk.injEq] at hs
  obtain ⟨⟨rfl, _, _⟩, _, rfl⟩ := hs
  have hc0 : ∀ q, q < (n + 1) * 2 → cur0[q]? = some (.int .i64 (joinF A (n * 2) X q)) := fun q hq => by
    have h1 := numsCells_get (F := joinF A (n * 2) X) hq
    rw [← htk, List.getElem?_take_of_lt (by omega)] at h1
    simpa using h1
  have HORD := Lib.hid hord
  have HST := Lib.hid (And.intro hg (And.intro hlc (And.intro hcm hbase)))
  have HC0 := Lib.hid hc0
  have HCU := Lib.hid hcur
  have HSZ := Lib.hid hsz
  clear hlen hg hcur hlc hcm hsz htk hc0 hord hbase
  go_enter Try.func47, Try.ntmps47
  go_wp2_with fail
  go_loopw [8, 9] (fun i _ wr => ∃ (x : Nat) (cur : Array Value), i = .int .i64 x ∧ 1 ≤ x ∧ x ≤ n + 1 ∧ wr.heap[g]? = some (.cells cur 30) ∧ cur.size = cap * 2 ∧ (x ≤ n → ∀ q, q < (n + 1) * 2 → cur[q]? = some (.int .i64 (joinF A (n * 2) X q))) ∧ (x = n + 1 → ∃ k, IsPlaceA A (X 0) n k ∧ ∀ q, q < (n + 1) * 2 → cur[q]? = some (.int .i64 (Pure.insA A k X q))) ∧ BelowBut base g w wr) (fun i _ _ => n + 1 - (intOf i).toNat)
  case atStart => exact ⟨1, cur0, rfl, Nat.le_refl _, by omega, HCU.out, HSZ.out, fun _ => HC0.out, fun e => ⟨0, ⟨by omega, fun m hm => by omega, fun m hm hmn => by omega⟩, fun q hq => by
    obtain rfl : n = 0 := by omega
    rw [HC0.out q hq, Pure.sortC_here hq]⟩, ⟨Below.refl _ _, fun _ _ _ => rfl⟩⟩
  case round =>
    obtain ⟨x, cur, rfl, hx1, hxn, hcu, hcs, hca, hcb, hbb⟩ := hrel
    have HCx := Lib.hid hcu
    have HCS := Lib.hid hcs
    have HCA := Lib.hid hca
    have HCB := Lib.hid hcb
    have HBB := Lib.hid hbb
    clear hcu hcs hca hcb hbb
    by_cases hlt : x ≤ n
    · have n1 : (x : Int) < (n : Int) + 1 := by omega
      obtain ⟨wo, hwo⟩ : ∃ v, v = wr := ⟨_, rfl⟩
      rw [← hwo] at HCx HBB ⊢
      clear hwo
      go_wp2_with fail
      go_loopw [9] (fun j wr => ∃ (y : Nat) (cur : Array Value), j = .int .i64 y ∧ y ≤ x ∧ (x < n → y = x) ∧ wr.heap[g]? = some (.cells cur 30) ∧ cur.size = cap * 2 ∧ (∀ q, q < (n + 1) * 2 → cur[q]? = some (.int .i64 (Pure.sortC A X n x y q))) ∧ (∀ m, y ≤ m → m < x → x = n → X 0 < A (m * 2)) ∧ BelowBut base g w wr) (fun j _ => (intOf j).toNat)
      case atStart => exact ⟨x, cur, rfl, Nat.le_refl _, fun _ => rfl, HCx.out, HCS.out, fun q hq => by
        rw [HCA.out hlt q hq]
        unfold Pure.sortC
        by_cases e : x < n
        · rw [if_pos e]
        · rw [if_neg e]
          obtain rfl : x = n := by omega
          rw [Pure.sortC_here hq], fun m hm hmx => by omega, HBB.out⟩
      case round =>
        obtain ⟨y, cur2, rfl, hyx, hyn, hcu, hcs, hcc, hgt, hbb⟩ := hrel
        have HCy := Lib.hid hcu
        have HCS2 := Lib.hid hcs
        have HCC := Lib.hid hcc
        have HGT := Lib.hid hgt
        have HB2 := Lib.hid hbb
        have HYN := Lib.hid hyn
        clear hcu hcs hcc hgt hbb hyn
        -- what the next round of the outer loop asks, if the x-th stays at y
        have hnext : (y = 0 ∨ ∀ Y, y = Y + 1 → ¬ (Pure.sortC A X n x y (y * 2) < Pure.sortC A X n x y (Y * 2))) → ∀ wn, Below wr.heap.size wr wn → ∃ cur : Array Value, wn.heap[g]? = some (.cells cur 30) ∧ cur.size = cap * 2 ∧ (x + 1 ≤ n → ∀ q, q < (n + 1) * 2 → cur[q]? = some (.int .i64 (joinF A (n * 2) X q))) ∧ (x + 1 = n + 1 → ∃ k, IsPlaceA A (X 0) n k ∧ ∀ q, q < (n + 1) * 2 → cur[q]? = some (.int .i64 (Pure.insA A k X q))) ∧ BelowBut base g w wn := fun hst wn hbn => by
          refine ⟨cur2, heap_lft HCy.out hbn, HCS2.out, fun hx q hq => ?_, fun hx => ?_, HB2.out.andThen HST.out.2.2.2 hbn⟩
          · have h1 := HCC.out q hq
            unfold Pure.sortC at h1
            rw [if_pos (by omega)] at h1
            exact h1
          · obtain rfl : x = n := by omega
            refine ⟨y, ⟨hyx, fun m hm => ?_, fun m hm hmn => HGT.out m hm hmn rfl⟩, fun q hq => ?_⟩
            · rcases hst with h0 | h0
              · omega
              · have h2 := h0 (y - 1) (by omega)
                unfold Pure.sortC Pure.insA at h2
                rw [if_neg (by omega), if_neg (by omega), if_pos (by omega), if_neg (by omega), if_pos (by omega), Nat.sub_self] at h2
                by_cases e : m = y - 1
                · subst e; omega
                · have := HORD.out (y - 1) m (by omega) (by omega); omega
            · have h1 := HCC.out q hq
              unfold Pure.sortC at h1
              rw [if_neg (by omega)] at h1
              exact h1
        have HNEXT := Lib.hid hnext
        clear hnext
        have h9 : y = 0 ∨ ∃ Y, y = Y + 1 := by
          cases y with
          | zero => exact .inl rfl
          | succ Y => exact .inr ⟨Y, rfl⟩
        rcases h9 with rfl | ⟨Y, rfl⟩
        · go_upto_region 4 with fail
          have HSt : Hid (Below wr.heap.size wr wr.drew) := Lib.hid (Below.refl _ _).drew
          have hne : Nonempty (Among (Below wr.heap.size wr)) := ⟨⟨_, HSt.out⟩⟩
          refine wp_region_class (Below wr.heap.size wr) (by kernel_rfl) (by kernel_rfl) HSt.out ?_
          repeat (go_big_quiet_step (fail))
          refine wpQuiet_nil ?_
          intro w8 hx
          have HB8 := Lib.hid (among_out hx)
          clear hx hne
          go_wp2_with fail
          go_roundw
          case rel =>
            obtain ⟨cur, k1, k2, k3, k4, k5⟩ := HNEXT.out (.inl rfl) _ HB8.out
            exact ⟨x + 1, cur, by go_num, by omega, by omega, k1, k2, k3, k4, k5⟩
          case measure => first | (simp [intOf]; done) | (simp [intOf]; omega)
        · have hyn : Y + 1 ≤ n := by omega
          have n2 : (0 : Int) < (Y : Int) + 1 := by omega
          have n2' : decide ((0 : Int) < (Y : Int) + 1) = true := decide_eq_true n2
          have n3 : (Y : Int) + 1 < (n : Int) + 1 := by omega
          have n4 : (Y : Int) < (n : Int) + 1 := by omega
          have q2 : IntKind.i64.wrap ((Y : Int) + 1 - 1) = Y := by rw [IntWalk.i64_in _ (by omega)]; omega
          have q3 : ((Y : Int) + 1).toNat = Y + 1 := by omega
          obtain ⟨r0, hr0⟩ : ∃ v, Pure.sortC A X n x (Y + 1) ((Y + 1) * 2) = v := ⟨_, rfl⟩
          obtain ⟨r1, hr1⟩ : ∃ v, Pure.sortC A X n x (Y + 1) ((Y + 1) * 2 + 1) = v := ⟨_, rfl⟩
          obtain ⟨s0, hs0⟩ : ∃ v, Pure.sortC A X n x (Y + 1) (Y * 2) = v := ⟨_, rfl⟩
          obtain ⟨s1, hs1⟩ : ∃ v, Pure.sortC A X n x (Y + 1) (Y * 2 + 1) = v := ⟨_, rfl⟩
          have c0 := heap_cell HCy.out (HCC.out ((Y + 1) * 2) (by omega))
          have c1 := heap_cell HCy.out (HCC.out ((Y + 1) * 2 + 1) (by omega))
          have d0 := heap_cell HCy.out (HCC.out (Y * 2) (by omega))
          have d1 := heap_cell HCy.out (HCC.out (Y * 2 + 1) (by omega))
          rw [hr0] at c0
          rw [hr1] at c1
          rw [hs0] at d0
          rw [hs1] at d1
          have HRS := Lib.hid (And.intro hr0 (And.intro hr1 (And.intro hs0 hs1)))
          clear hr0 hr1 hs0 hs1
          obtain ⟨v, hv⟩ : ∃ v, Pure.cmp r0 s0 = v := ⟨_, rfl⟩
          have HV := Lib.hid hv
          have xx0 := among_below c0
          have xx1 := among_below c1
          have xx2 := among_below d0
          have xx3 := among_below d1
          have HCL : Hid (∀ xq : Among (Below wr.heap.size wr), Calls Try.prog 27 #[arrV r0 r1, arrV s0 s1] xq.val fun e w' => e = .returned (.int .i64 v) ∧ ∃ y : Among (Below wr.heap.size wr), w' = y.val) :=
            Lib.hid (fun xq => calls_class ((arrCmp_any r0 r1 s0 s1 xq.val).mono fun e w' h => ⟨by rw [← HV.out]; exact h.1, xq.ok.trans (h.2.mono xq.ok.size)⟩))
          clear hv
          go_upto_region 4 with fail
          have HSt : Hid (Below wr.heap.size wr wr.drew) := Lib.hid (Below.refl _ _).drew
          have hne : Nonempty (Among (Below wr.heap.size wr)) := ⟨⟨_, HSt.out⟩⟩
          refine wp_region_class (Below wr.heap.size wr) (by kernel_rfl) (by kernel_rfl) HSt.out ?_
          repeat (go_big_quiet_step ((go_at_call 27; exact HCL.out _)))
          refine wpQuiet_nil ?_
          intro w8 hx
          have HB8 := Lib.hid (among_out hx)
          clear hx hne xx0 xx1 xx2 xx3 c0 c1 d0 d1
          by_cases hv0 : v < 0
          · have hlt0 : r0 < s0 := by
              have h1 := HV.out
              unfold Pure.cmp at h1
              by_cases e : r0 < s0
              · exact e
              · rw [if_neg e] at h1
                split at h1 <;> omega
            have hxe : ¬ x < n := fun hx => by
              have h1 := HYN.out hx
              have h2 := HRS.out.1
              have h3 := HRS.out.2.2.1
              unfold Pure.sortC joinF at h2 h3
              rw [if_pos hx, if_pos (by omega)] at h2 h3
              have := HORD.out (Y + 1) Y (by omega) (by omega)
              omega
            have HXE := Lib.hid hxe
            have HLT0 := Lib.hid hlt0
            have HC8 := Lib.hid (heap_lft HCy.out HB8.out)
            have HB28 := Lib.hid (HB2.out.andThen HST.out.2.2.2 HB8.out)
            clear hxe hlt0
            go_upto_region 6 with fail
            have p0 := heap_cell HC8.out (HCC.out ((Y + 1) * 2) (by omega))
            have p1 := heap_cell HC8.out (HCC.out ((Y + 1) * 2 + 1) (by omega))
            have p2 := heap_cell HC8.out (HCC.out (Y * 2) (by omega))
            have p3 := heap_cell HC8.out (HCC.out (Y * 2 + 1) (by omega))
            rw [HRS.out.1] at p0
            rw [HRS.out.2.1] at p1
            rw [HRS.out.2.2.1] at p2
            rw [HRS.out.2.2.2] at p3
            have f0 := heap_frozen HC8.out ((Y + 1) * 2)
            have f1 := heap_frozen HC8.out ((Y + 1) * 2 + 1)
            have f2 := heap_frozen HC8.out (Y * 2)
            have f3 := heap_frozen HC8.out (Y * 2 + 1)
            have HG := Lib.hid HST.out.1
            go_region
            all_goals
              go_wp2_with fail
              go_roundw
              case rel =>
                refine ⟨Y, (((cur2.setIfInBounds ((Y + 1) * 2) (.int .i64 s0)).setIfInBounds ((Y + 1) * 2 + 1) (.int .i64 s1)).setIfInBounds (Y * 2) (.int .i64 r0)).setIfInBounds (Y * 2 + 1) (.int .i64 r1), by go_num, by omega, fun hx => absurd hx HXE.out, heap_set (heap_set (heap_set (heap_set HC8.out _ _) _ _) _ _) _ _, by simpa using HCS2.out, fun q hq => ?_, fun m hm hmx hxn => ?_, ((((HB28.out.set HG.out _ _).set HG.out _ _).set HG.out _ _).set HG.out _ _).drewn⟩
                · have hsz : (n + 1) * 2 ≤ cur2.size := by have h1 := HCS2.out; have h2 := HST.out.2.1; omega
                  have hq2 := HCC.out q hq
                  obtain ⟨e0, e1, e2, e3⟩ := HRS.out
                  have hxe := HXE.out
                  unfold Pure.sortC at e0 e1 e2 e3 hq2 ⊢
                  rw [if_neg hxe] at e0 e1 e2 e3 hq2 ⊢
                  unfold Pure.insA at e0 e1 e2 e3 hq2 ⊢
                  by_cases k0 : q = Y * 2 + 1
                  · subst k0
                    rw [Array.getElem?_setIfInBounds_self_of_lt (by simp; omega), ← e1]
                    rw [if_neg (by omega), if_pos (by omega), if_neg (by omega), if_pos (by omega)]
                    congr 3
                    omega
                  · rw [Array.getElem?_setIfInBounds_ne (by omega)]
                    by_cases k1 : q = Y * 2
                    · subst k1
                      rw [Array.getElem?_setIfInBounds_self_of_lt (by simp; omega), ← e0]
                      rw [if_neg (by omega), if_pos (by omega), if_neg (by omega), if_pos (by omega)]
                      congr 3
                      omega
                    · rw [Array.getElem?_setIfInBounds_ne (by omega)]
                      by_cases k2 : q = (Y + 1) * 2 + 1
                      · subst k2
                        rw [Array.getElem?_setIfInBounds_self_of_lt (by simp; omega), ← e3]
                        rw [if_pos (by omega), if_neg (by omega), if_neg (by omega)]
                        congr 3
                        omega
                      · rw [Array.getElem?_setIfInBounds_ne (by omega)]
                        by_cases k3 : q = (Y + 1) * 2
                        · subst k3
                          rw [Array.getElem?_setIfInBounds_self_of_lt (by omega), ← e2]
                          rw [if_pos (by omega), if_neg (by omega), if_neg (by omega)]
                          congr 3
                          omega
                        · rw [Array.getElem?_setIfInBounds_ne (by omega), hq2]
                          by_cases k4 : q < Y * 2
                          · rw [if_pos (by omega), if_pos k4]
                          · rw [if_neg (by omega), if_neg (by omega), if_neg k4, if_neg (by omega)]
                · by_cases e : m = Y
                  · subst e
                    have h1 := HRS.out.1
                    have h2 := HRS.out.2.2.1
                    have hxe := HXE.out
                    unfold Pure.sortC Pure.insA at h1 h2
                    rw [if_neg hxe, if_neg (by omega), if_pos (by omega), Nat.sub_self] at h1
                    rw [if_neg hxe, if_pos (by omega)] at h2
                    have := HLT0.out
                    omega
                  · exact HGT.out m (by omega) hmx hxn
              case measure => first | (simp [intOf]; done) | (simp [intOf]; omega)
          · go_wp2_with fail
            go_roundw
            case rel =>
              obtain ⟨cur, k1, k2, k3, k4, k5⟩ := HNEXT.out (.inr fun Y' e => by
                obtain rfl : Y' = Y := by omega
                rw [HRS.out.1, HRS.out.2.2.1]
                have h1 := HV.out
                unfold Pure.cmp at h1
                intro e2
                rw [if_pos e2] at h1
                omega) _ HB8.out
              exact ⟨x + 1, cur, by go_num, by omega, by omega, k1, k2, k3, k4, k5⟩
            case measure => first | (simp [intOf]; done) | (simp [intOf]; omega)
    · obtain rfl : x = n + 1 := by omega
      have n1 : ¬ ((n : Int) + 1 < (n : Int) + 1) := by omega
      go_wp2_with fail
      go_end0
      obtain ⟨k, hk, hkc⟩ := HCB.out (by first | rfl | trivial)
      refine ⟨⟨_, rfl⟩, HBB.out, k, hk, numsCells_length _ _, .inr ⟨g, cap, cur, rfl, HST.out.1, HCx.out, HST.out.2.1, HST.out.2.2.1, HCS.out, ?_⟩⟩
      apply List.ext_getElem?
      intro q
      by_cases hq : q < (n + 1) * 2
      · rw [List.getElem?_take_of_lt hq, numsCells_get hq, Array.getElem?_toList, hkc q hq]
      · rw [List.getElem?_eq_none (by simp; omega), List.getElem?_eq_none (by rw [numsCells_length]; omega)]

set_option maxHeartbeats 4000000 in
set_option maxRecDepth 100000 in
theorem stable_any (g cap n : Nat) (A X : Nat → Int) (base : Nat) (hl : n ≤ 18) (w : World) (hbase : base ≤ w.heap.size) (h : OwnNums w base 30 2 (some ⟨g, 0, none⟩) (n + 1) cap (joinF A (n * 2) X)) (hord : ∀ y x, x < y → y < n → A (x * 2) ≤ A (y * 2)) :
    Calls Try.prog 40 #[.slice (some ⟨g, 0, none⟩) (n + 1) cap, .int .i64 ((n : Int) + 1), .func (.func 27) #[] #[]] w fun e w' => (∃ v, e = .returned v) ∧ BelowBut base g w w' ∧ ∃ k, IsPlaceA A (X 0) n k ∧ OwnNums w' base 30 2 (some ⟨g, 0, none⟩) (n + 1) cap (Pure.insA A k X) := by
  have HO := Lib.hid h
  have HD := Lib.hid hord
  have HBS := Lib.hid hbase
  clear h hord hbase
  have n1 : ¬ ((20 : Int) ≤ (n : Int) + 1) := by omega
  have n2 : ¬ ((20 : Int) < (n : Int) + 1) := by omega
  go_enter Try.func40, Try.ntmps40
  go_wp2_with fail
  go_loop [7, 8] (fun a b => a = .int .i64 0 ∧ b = .int .i64 20) (fun _ _ => 0)
  case atStart => exact ⟨rfl, rfl⟩
  case round =>
    obtain ⟨rfl, rfl⟩ := hrel
    go_wp2_with fail
    refine (ins_any g cap n A X base (by omega) _ HBS.out HO.out HD.out).mono ?_
    rintro e w2 ⟨⟨v, rfl⟩, hbb, hk⟩
    have HB := Lib.hid hbb
    have HK := Lib.hid hk
    clear hbb hk
    go_wp2_with fail
    go_loop [6, 7, 8, 9] (fun s _ _ _ => s = .int .i64 20) (fun _ _ _ _ => 0)
    case atStart => rfl
    case round =>
      subst hrel
      go_wp2_with fail
      go_end0
      exact ⟨⟨_, rfl⟩, HB.out, HK.out⟩

set_option maxHeartbeats 1000000 in
theorem sort_any (g cap n : Nat) (A X : Nat → Int) (base : Nat) (hl : n ≤ 18) (w : World) (hbase : base ≤ w.heap.size) (h : OwnNums w base 30 2 (some ⟨g, 0, none⟩) (n + 1) cap (joinF A (n * 2) X)) (hord : ∀ y x, x < y → y < n → A (x * 2) ≤ A (y * 2)) :
    Calls Try.prog 26 #[.slice (some ⟨g, 0, none⟩) (n + 1) cap, .func (.func 27) #[] #[]] w fun e w' => (∃ v, e = .returned v) ∧ BelowBut base g w w' ∧ ∃ k, IsPlaceA A (X 0) n k ∧ OwnNums w' base 30 2 (some ⟨g, 0, none⟩) (n + 1) cap (Pure.insA A k X) := by
  have HO := Lib.hid h
  have HD := Lib.hid hord
  have HBS := Lib.hid hbase
  clear h hord hbase
  go_enter Try.func26, Try.ntmps26
  go_wp2_with fail
  refine (stable_any g cap n A X base hl _ HBS.out HO.out HD.out).mono ?_
  rintro e w2 ⟨⟨v, rfl⟩, hbb, hk⟩
  have HB := Lib.hid hbb
  have HK := Lib.hid hk
  clear hbb hk
  go_wp2_with fail
  go_end0
  exact ⟨⟨_, rfl⟩, HB.out, HK.out⟩

end Go.Proofs.Ytknpdjbokgenpaa
