/-
  The contracts of place, checkRick, and of slices.DeleteFunc at ricks, of which just one goes.
-/
import Derived.Test.YtknpdjbokgenpabWErr
namespace Go.Proofs.Ytknpdjbokgenpab
open Go.RowKit

namespace Pure
def rickAt (n : Nat) (F : Nat → Int) (id : Int) : Int := firstAt (fun j => F (j * 3) == id) n
/-- The numbers without the row k. -/
def delF (F : Nat → Int) (k : Nat) : Nat → Int := fun q => if q < k * 3 then F q else F (q + 3)
end Pure
theorem byId_any (B : Nat) (id i e' d : Int) (t : TypeId) (w : World) (hB : w.heap[B]? = some (.cells #[.int .i64 id] t)) :
    Calls Try.prog 35 #[rickV i e' d, .pointer (some ⟨B, 0, none⟩)] w fun e w' => e = .returned (.bool (i == id)) ∧ Below w.heap.size w w' := by
  have k0 := heap_cell (heap_up hB (rickB i e' d)) (j := 0) rfl
  go_enter Try.func35, Try.ntmps35
  go_wp2_with fail
  go_ret
  exact ⟨rfl, below_new _ _⟩
theorem same_any (B : Nat) (i e' d i2 e2 d2 : Int) (w : World) (hB : w.heap[B]? = some (rickB i2 e2 d2)) :
    Calls Try.prog 23 #[rickV i e' d, .pointer (some ⟨B, 0, none⟩)] w fun e w' => e = .returned (.bool (decide (i = i2 ∧ e' = e2 ∧ d = d2))) ∧ Below w.heap.size w w' := by
  have hx := heap_up hB (rickB i e' d)
  have k0 := heap_cell hx (j := 0) rfl
  have k1 := heap_cell hx (j := 1) rfl
  have k2 := heap_cell hx (j := 2) rfl
  clear hx
  go_enter Try.func23, Try.ntmps23
  go_wp2_with fail
  all_goals
    go_ret
    exact ⟨ret_bool (by simp_all), below_new _ _⟩
set_option maxHeartbeats 1000000 in
theorem place_any (h : Int) (a : Option Addr) (n c : Nat) (F : Nat → Int) (id : Int) (hn : n ≤ 40) (w : World) (hF : NumsAt w a (n * 3) F) :
    Calls Try.prog 21 #[watchV h a n c, .int .i64 id] w fun e w' => e = .returned (.int .i64 (Pure.rickAt n F id)) ∧ Below w.heap.size w w' := by
  obtain ⟨W, hW⟩ : ∃ W, (w.alloc (watchB h a n c)).alloc (.cells #[.int .i64 id] 3) = W := ⟨_, rfl⟩
  have HB : Hid (Below w.heap.size w W) := Lib.hid (by rw [← hW]; exact (below_new _ _).alloc (by simp) _)
  have HX : Hid (W.heap[w.heap.size]? = some (watchB h a n c)) := Lib.hid (by rw [← hW]; exact heap_up (heap_top _ _ rfl) _)
  have HI : Hid (W.heap[w.heap.size + 1]? = some (.cells #[.int .i64 id] 3)) := Lib.hid (by rw [← hW]; exact heap_top _ _ (by simp))
  have HP := Lib.hid (hF.below HB.out)
  clear hF
  have x1 := heap_cell HX.out (j := 1) rfl
  go_enter Try.func21, Try.ntmps21
  go_upto_region 1 with fail
  try rw [hW]
  clear hW
  go_wp2_with fail
  refine (indexPlace_any (w.heap.size + 1) a n c F (fun j => F (j * 3) == id) hn _ HP.out (fun u j hj hb => byId_any (w.heap.size + 1) id _ _ _ _ u (heap_lft HI.out hb))).mono ?_
  rintro e u ⟨rfl, hb⟩
  have HB2 := Lib.hid (below_thn HB.out hb)
  clear hb x1
  go_wp2_with fail
  go_ret
  exact ⟨rfl, HB2.out⟩
set_option maxHeartbeats 1000000 in
theorem checkRick_any (h : Int) (a : Option Addr) (n c : Nat) (F : Nat → Int) (id : Int) (hn : n ≤ 40) (w : World) (hF : NumsAt w a (n * 3) F) :
    Calls Try.prog 20 #[watchV h a n c, .int .i64 id] w fun e w' => e = .returned (.int .i64 (Pure.err (decide (0 ≤ Pure.rickAt n F id)) 6)) ∧ Below w.heap.size w w' := by
  obtain ⟨W, hW⟩ : ∃ W, w.alloc (watchB h a n c) = W := ⟨_, rfl⟩
  have HB : Hid (Below w.heap.size w W) := Lib.hid (by rw [← hW]; exact below_new _ _)
  have HX : Hid (W.heap[w.heap.size]? = some (watchB h a n c)) := Lib.hid (by rw [← hW]; exact heap_top _ _ rfl)
  have HP := Lib.hid (hF.below HB.out)
  clear hF
  have x0 := heap_cell HX.out (j := 0) rfl
  have x1 := heap_cell HX.out (j := 1) rfl
  go_enter Try.func20, Try.ntmps20
  go_upto_region 1 with fail
  try rw [hW]
  clear hW
  go_wp2_with fail
  refine (place_any h a n c F id hn _ HP.out).mono ?_
  rintro e u ⟨rfl, hb⟩
  have HB2 := Lib.hid (below_thn HB.out hb)
  clear hb x0 x1
  obtain ⟨v, hv⟩ : ∃ v, Pure.rickAt n F id = v := ⟨_, rfl⟩
  rw [hv]
  have HV := Lib.hid hv
  clear hv
  go_wp2_with fail
  refine (unless_any (decide (0 ≤ v)) 6 _).mono ?_
  rintro e u2 ⟨rfl, rfl⟩
  go_wp2_with fail
  go_ret
  exact ⟨ret_int (by rw [HV.out]), HB2.out⟩

set_option maxHeartbeats 4000000 in
set_option maxRecDepth 100000 in
theorem delete_any (B : Nat) (x0 x1 x2 : Int) (k0 : Nat) (a : Option Addr) (len cap : Nat) (F : Nat → Int) (base : Nat) (hl : len ≤ 40) (hk0 : k0 < len) (w : World) (hB : w.heap[B]? = some (rickB x0 x1 x2)) (hbase : base ≤ w.heap.size) (hBa : ∀ x, a = some x → x.block ≠ B) (h : OwnNums w base 26 3 a len cap F)
    (hx : ∀ j, j < len → decide (F (j * 3) = x0 ∧ F (j * 3 + 1) = x1 ∧ F (j * 3 + 2) = x2) = decide (j = k0)) :
    Calls Try.prog 22 #[.slice a len cap, .func (.func 23) #[] #[.pointer (some ⟨B, 0, none⟩)]] w fun e w' =>
      e = .returned (.slice a (len - 1) cap) ∧ OwnNums w' base 26 3 a (len - 1) cap (Pure.delF F k0) ∧ Below base w w' ∧ Alone a w w' := by
  have HO := Lib.hid h
  have HI := Lib.hid hB
  have HBB := Lib.hid (And.intro hbase hBa)
  have HXX := Lib.hid hx
  have hp : ∀ (u : World) (j : Nat), j < len → u.heap[B]? = some (rickB x0 x1 x2) → Calls Try.prog 23 #[rickV (F (j * 3)) (F (j * 3 + 1)) (F (j * 3 + 2)), .pointer (some ⟨B, 0, none⟩)] u fun e w' => e = .returned (.bool (decide (j = k0))) ∧ Below u.heap.size u w' := fun u j hj hu =>
    (same_any B _ _ _ _ _ _ u hu).mono fun e w' g => ⟨by rw [← hx j hj]; exact g.1, g.2⟩
  have HPP := Lib.hid hp
  clear h hB hbase hBa hx hp
  go_enter Try.func22, Try.ntmps22
  go_wp2_with fail
  refine (indexDrop_any B a len cap F (fun j => decide (j = k0)) hl w HO.out.nums (fun u j hj hb => HPP.out u j hj (heap_lft HI.out hb))).mono ?_
  rintro e w1 ⟨rfl, hb1⟩
  have HB1 := Lib.hid hb1
  clear hb1
  have he : Pure.firstAt (fun j => decide (j = k0)) len = k0 := Pure.firstAt_hit hk0 (fun j hj => by simp; omega) (by simp)
  rw [he]
  obtain ⟨hlen, ⟨_, h0⟩ | ⟨g, cap', cur0, hs, hg, hcur, hlc, hcm, hsz, htk⟩⟩ := HO.out
  · omega
  simp only [Value.slice.injEq] at hs
  obtain ⟨rfl, _, rfl⟩ := hs
  have hc0 : ∀ q, q < len * 3 → cur0[q]? = some (.int .i64 (F q)) := fun q hq => by
    have h1 := numsCells_get (F := F) hq
    rw [← htk, List.getElem?_take_of_lt (by omega)] at h1
    simpa using h1
  have hneq : ((k0 : Int) == -1) = false := beq_eq_false_iff_ne.2 (by omega)
  have HST := Lib.hid (And.intro hc0 (And.intro hsz (And.intro hlc (And.intro hcm hg))))
  have HCU := Lib.hid (heap_lft hcur HB1.out)
  have HI1 := Lib.hid (heap_lft HI.out HB1.out)
  have HNE : Hid (B ≠ g) := Lib.hid (fun e => HBB.out.2 _ rfl e.symm)
  clear he hc0 hsz htk hlc hcm hg hcur hlen
  go_wp2_with fail
  go_loopw [5, 6] (fun i j wr => ∃ (x : Nat) (cur : Array Value), i = .int .i64 x ∧ j = .int .i64 ((x : Int) + 1) ∧ x + 1 ≤ len ∧ k0 ≤ x ∧ wr.heap[g]? = some (.cells cur 26) ∧ cur.size = cap * 3 ∧ (∀ q, q < x * 3 → cur[q]? = some (.int .i64 (Pure.delF F k0 q))) ∧ (∀ q, (x + 1) * 3 ≤ q → q < len * 3 → cur[q]? = some (.int .i64 (F q))) ∧ wr.heap[B]? = some (rickB x0 x1 x2) ∧ BelowBut base g w wr) (fun _ j _ => len - (intOf j).toNat)
  case atStart => exact ⟨k0, cur0, rfl, by go_num, by omega, Nat.le_refl _, HCU.out, HST.out.2.1, fun q hq => by rw [Pure.delF, if_pos hq]; exact HST.out.1 q (by omega), fun q _ hq => HST.out.1 q hq, HI1.out, ⟨HB1.out.mono HBB.out.1, fun i hi _ => HB1.out.block i hi⟩⟩
  case round =>
    obtain ⟨x, cur, rfl, rfl, hyl, hxk, hcu, hcs, hc1, hc2, hid, hb⟩ := hrel
    have HCx := Lib.hid hcu
    have HCS := Lib.hid hcs
    have HC1 := Lib.hid hc1
    have HC2 := Lib.hid hc2
    have HID := Lib.hid hid
    have HBx := Lib.hid hb
    clear hcu hcs hc1 hc2 hid hb
    by_cases hlt : x + 1 < len
    · have c0 := heap_cell HCx.out (HC2.out ((x + 1) * 3) (by omega) (by omega))
      have c1 := heap_cell HCx.out (HC2.out ((x + 1) * 3 + 1) (by omega) (by omega))
      have c2 := heap_cell HCx.out (HC2.out ((x + 1) * 3 + 2) (by omega) (by omega))
      have n1 : (x : Int) + 1 < len := by omega
      have q3 : ((x : Int) + 1).toNat = x + 1 := by omega
      go_wp2_with fail
      refine (HPP.out _ (x + 1) hlt (heap_up HID.out _)).mono ?_
      rintro e u ⟨rfl, hb2⟩
      clear c0 c1 c2
      have hbu : Below wr.heap.size wr u := (below_new _ _).trans (hb2.mono (by simp))
      have HXU := Lib.hid (heap_lft (heap_top wr (rickB (F ((x + 1) * 3)) (F ((x + 1) * 3 + 1)) (F ((x + 1) * 3 + 2))) rfl) hb2)
      have HCU2 := Lib.hid (heap_lft HCx.out hbu)
      have HIU := Lib.hid (heap_lft HID.out hbu)
      have HBU := Lib.hid (HBx.out.andThen HBB.out.1 hbu)
      clear hb2 hbu
      have hbe : decide (x + 1 = k0) = false := decide_eq_false (by omega)
      rw [hbe]
      clear hbe
      have u0 := heap_cell HXU.out (j := 0) rfl
      have u1 := heap_cell HXU.out (j := 1) rfl
      have u2 := heap_cell HXU.out (j := 2) rfl
      have hcz : x * 3 + 2 < cur.size := by have := HCS.out; have := HST.out.2.2.1; omega
      obtain ⟨z0, d0⟩ := cell_ex HCU2.out (show x * 3 < cur.size by omega)
      obtain ⟨z1, d1⟩ := cell_ex HCU2.out (show x * 3 + 1 < cur.size by omega)
      obtain ⟨z2, d2⟩ := cell_ex HCU2.out (show x * 3 + 2 < cur.size by omega)
      have f0 := heap_frozen HCU2.out (x * 3)
      have f1 := heap_frozen HCU2.out (x * 3 + 1)
      have f2 := heap_frozen HCU2.out (x * 3 + 2)
      have HCZ := Lib.hid hcz
      clear hcz
      have n2 : (x : Int) < len := by omega
      have HG := Lib.hid HST.out.2.2.2.2
      go_wp2_with fail
      go_roundw
      case rel => exact ⟨x + 1, ((cur.setIfInBounds (x * 3) (.int .i64 (F ((x + 1) * 3)))).setIfInBounds (x * 3 + 1) (.int .i64 (F ((x + 1) * 3 + 1)))).setIfInBounds (x * 3 + 2) (.int .i64 (F ((x + 1) * 3 + 2))), by go_num, by go_num, by omega, by omega, heap_set (heap_set (heap_set HCU2.out _ _) _ _) _ _, by simpa using HCS.out, fun q hq => by
        have hz := HCZ.out
        by_cases h1 : q < x * 3
        · rw [Array.getElem?_setIfInBounds_ne (by omega), Array.getElem?_setIfInBounds_ne (by omega), Array.getElem?_setIfInBounds_ne (by omega), HC1.out q h1]
        · have h2 : q = x * 3 ∨ q = x * 3 + 1 ∨ q = x * 3 + 2 := by omega
          have h3 : Pure.delF F k0 q = F (q + 3) := by rw [Pure.delF, if_neg (by omega)]
          rw [h3]
          rcases h2 with rfl | rfl | rfl
          · rw [Array.getElem?_setIfInBounds_ne (by omega), Array.getElem?_setIfInBounds_ne (by omega), Array.getElem?_setIfInBounds_self_of_lt (by omega), show (x + 1) * 3 = x * 3 + 3 by omega]
          · rw [Array.getElem?_setIfInBounds_ne (by omega), Array.getElem?_setIfInBounds_self_of_lt (by simp; omega), show (x + 1) * 3 + 1 = x * 3 + 1 + 3 by omega]
          · rw [Array.getElem?_setIfInBounds_self_of_lt (by simp; omega), show (x + 1) * 3 + 2 = x * 3 + 2 + 3 by omega], fun q hq hq2 => by
        rw [Array.getElem?_setIfInBounds_ne (by omega), Array.getElem?_setIfInBounds_ne (by omega), Array.getElem?_setIfInBounds_ne (by omega)]
        exact HC2.out q (by omega) hq2, (by
        have hne := HNE.out
        exact (Below.heap_setCell _ _ _ _ hne).trans ((Below.heap_setCell _ _ _ _ hne).trans ((Below.heap_setCell _ _ _ _ hne).trans HIU.out))), ((HBU.out.set HG.out _ _).set HG.out _ _).set HG.out _ _⟩
      case measure => simp [intOf]; omega
    · obtain rfl : len = x + 1 := by omega
      have hlc := HST.out.2.2.1
      have hcs := HCS.out
      have HG := Lib.hid HST.out.2.2.2.2
      have hz : ∀ w, (zeroValue 26).run Try.prog w = .ok (.agg #[.int .i64 0, .int .i64 0, .int .i64 0]) w := fun w => by kernel_rfl
      have hcl : ∀ ty, (Builtin.clear_ #[22] ty #[.slice (some ⟨g, x * 3, none⟩) (x + 1 - x) (cap - x)]).run Try.prog wr = .ok (.tuple #[]) (wr.setCells g (x * 3) (List.replicate ((x + 1 - x) * 3) (.int .i64 0))) := fun ty =>
        run_clear_rows wr _ _ ty 3 (by decide) _ Try.underlying22 hz rfl g (x * 3) (x + 1 - x) (cap - x) (by omega) (fun j hj => by obtain ⟨v, hv⟩ := cell_ex HCx.out (show x * 3 + j < cur.size by omega); rw [hv]; rfl) (fun j _ => heap_frozen HCx.out _)
      obtain ⟨Z, hZ⟩ : ∃ Z, wr.setCells g (x * 3) (List.replicate ((x + 1 - x) * 3) (.int .i64 0)) = Z := ⟨_, rfl⟩
      obtain ⟨cur', hc', hs', hk'⟩ := heap_setCells g (List.replicate ((x + 1 - x) * 3) (.int .i64 0)) (x * 3) wr cur HCx.out
      have hbz := but_setCells g HG.out (List.replicate ((x + 1 - x) * 3) (.int .i64 0)) (x * 3) wr HBx.out
      rw [hZ] at hcl hc' hbz
      have HBZ := Lib.hid hbz
      have HOZ : Hid (OwnNums Z base 26 3 (some ⟨g, 0, none⟩) x cap (Pure.delF F k0)) := Lib.hid ⟨numsCells_length _ _, .inr ⟨g, cap, cur', rfl, HG.out, hc', by omega, HST.out.2.2.2.1, by rw [hs', hcs], by
        apply List.ext_getElem?
        intro q
        by_cases hq : q < x * 3
        · rw [List.getElem?_take_of_lt hq, numsCells_get hq]
          have := hk' q hq
          rw [HC1.out q hq] at this
          simpa using this
        · rw [List.getElem?_eq_none (by simp; omega), List.getElem?_eq_none (by rw [numsCells_length]; omega)]⟩⟩
      have n2 : ((x + 1 : Nat) : Int) ≤ cap := by omega
      have n3 : (x : Int) ≤ cap := by omega
      rw [show x + 1 - x = 1 by omega] at hcl
      clear hZ hc' hs' hk' hbz hz hcs
      go_wp2_with fail
      go_ret
      exact ⟨rfl, HOZ.out, HBZ.out.b, fun i hi h => HBZ.out.o i hi (h _ rfl)⟩

end Go.Proofs.Ytknpdjbokgenpab
