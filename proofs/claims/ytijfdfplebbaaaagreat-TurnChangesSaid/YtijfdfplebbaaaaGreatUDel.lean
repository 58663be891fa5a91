/-
  The contract of slices.DeleteFunc at notes: what is struck goes, the rest stays in its order.
-/
import Derived.Test.YtijfdfplebbaaaaGreatUClone
import Derived.Test.YtijfdfplebbaaaaGreatUNos
namespace Go.Proofs.YtijfdfplebbaaaaGreat
open Go.RowKit

namespace Pure
/-- How many of the first ones are not struck, and which they are. -/
def keepN (q : Nat → Bool) : Nat → Nat
  | 0 => 0
  | i + 1 => if q i then keepN q i else keepN q i + 1
def keepX (q : Nat → Bool) (N : Nat → NoteX) : Nat → Nat → NoteX
  | 0 => N
  | i + 1 => if q i then keepX q N i else fun j => if j = keepN q i then N i else keepX q N i j
theorem keepN_le (q : Nat → Bool) : ∀ i, keepN q i ≤ i
  | 0 => Nat.le_refl _
  | i + 1 => by
    have := keepN_le q i
    unfold keepN
    split <;> omega
theorem keep_none (q : Nat → Bool) (N : Nat → NoteX) : ∀ i, (∀ j, j < i → q j = false) → keepN q i = i ∧ ∀ j, j < i → keepX q N i j = N j
  | 0, _ => ⟨rfl, fun j hj => by omega⟩
  | i + 1, h => by
    obtain ⟨h1, h2⟩ := keep_none q N i (fun j hj => h j (by omega))
    have h3 := h i (by omega)
    refine ⟨by simp [keepN, h3, h1], fun j hj => ?_⟩
    simp only [keepX, h3, h1]
    by_cases e : j = i
    · subst e; simp
    · simp [e, h2 j (by omega)]
theorem keepX_old (q : Nat → Bool) (N : Nat → NoteX) (i j : Nat) (hj : j < keepN q i) : keepX q N (i + 1) j = keepX q N i j := by
  rw [keepX]
  split
  · rfl
  · show (if j = keepN q i then N i else keepX q N i j) = _
    rw [if_neg (by omega)]
end Pure

theorem run_clear_vals {P : Program} (w : World) (t e ty : TypeId) (k : Nat) (hk0 : 0 < k) (z : Value) (ht : P.underlying t = some (.slice e)) (hv : ∀ w, (zeroValue e).run P w = .ok z w) (hz : z.cells.size = k) (h1 : ∀ i (h : i < z.cells.size), (z.cells[i]).oneCell' = true) (b o n c : Nat) (hn : 0 < n)
    (hc : ∀ j, j < n * k → (w.cell? ⟨b, o + j, none⟩).isSome = true) (hf : ∀ j, j < n * k → w.frozen? ⟨b, o + j, none⟩ = false) :
    (Builtin.clear_ #[t] ty #[.slice (some ⟨b, o, none⟩) n c]).run P w = .ok (.tuple #[]) (w.setCells b o (Builtin.zeroCells z.cells n).toList) := by
  have hsz : (Builtin.zeroCells z.cells n).toList.length = n * k := by rw [← hz]; simp [Builtin.zeroCells]
  have hst := run_storeCells_cells (P := P) b o (Builtin.zeroCells z.cells n).toList 0 w (by rw [hsz]; simpa using hc) (by rw [hsz]; simpa using hf) (by
    intro v hv'
    obtain ⟨j, hj⟩ := List.getElem?_of_mem hv'
    have hjl : j < n * z.cells.size := by
      have := (List.getElem?_eq_some_iff.1 hj).1
      rw [hsz, ← hz] at this
      exact this
    have hm : j % z.cells.size < z.cells.size := Nat.mod_lt _ (by omega)
    have h2 : (Builtin.zeroCells z.cells n).toList[j]? = some z.cells[j % z.cells.size] := by
      simp [Builtin.zeroCells, hjl, hm]
    rw [h2] at hj
    cases hj
    exact h1 _ hm)
  simp only [Nat.add_zero] at hst
  obtain ⟨L, hL⟩ : ∃ L, (Builtin.zeroCells z.cells n).toList = L := ⟨_, rfl⟩
  rw [hL] at hst ⊢
  obtain ⟨m, rfl⟩ : ∃ m, n = m + 1 := ⟨n - 1, by omega⟩
  simp [Builtin.clear_, run_underlying ht, hv, hL, hst]

set_option maxHeartbeats 8000000 in
set_option maxRecDepth 100000 in
theorem delete_any (B : Nat) (q : Nat → Bool) (a : Option Addr) (len cap : Nat) (N : Nat → NoteX) (base : Nat) (hl : len ≤ 60) (w : World) (hbase : base ≤ w.heap.size) (h : OwnVals w base 34 7 a len cap (noteF N))
    (hp : ∀ u j, j < len → Below base w u → Calls Tryz.prog 36 #[tnoteV (N j), .pointer (some ⟨B, 0, none⟩)] u fun e u' => e = .returned (.bool (q j)) ∧ Below u.heap.size u u') :
    Calls Tryz.prog 38 #[.slice a len cap, .func (.func 36) #[] #[.pointer (some ⟨B, 0, none⟩)]] w fun e w' =>
      e = .returned (.slice a (Pure.keepN q len) cap) ∧ OwnVals w' base 34 7 a (Pure.keepN q len) cap (noteF (Pure.keepX q N len)) ∧ Below base w w' ∧ ∀ i, i < w.heap.size → (∀ x, a = some x → i ≠ x.block) → w'.heap[i]? = w.heap[i]? := by
  have HO := Lib.hid h
  have HBS := Lib.hid hbase
  have HPP := Lib.hid hp
  clear h hbase hp
  go_enter Tryz.func38, Tryz.ntmps38
  go_wp2_with fail
  refine (indexNoteStruck_any B a len cap N q hl w HO.out.nums.notes (fun u j hj hb => HPP.out u j hj (hb.mono HBS.out))).mono ?_
  rintro e w1 ⟨rfl, hb1⟩
  have HB1 := Lib.hid hb1
  clear hb1
  rcases Pure.firstAt_cases q len with ⟨he, hnone⟩ | ⟨k0, hk0, he, hq0, hlow⟩
  · rw [he]
    obtain ⟨hk1, hk2⟩ := Pure.keep_none q N len hnone
    have HK := Lib.hid (And.intro hk1 hk2)
    clear he hnone hk1 hk2
    go_wp2_with fail
    go_ret
    rw [HK.out.1]
    refine ⟨rfl, (HO.out.below HB1.out).congr (fun q' hq' => ?_), HB1.out.mono HBS.out, fun i hi _ => HB1.out.block i hi⟩
    rw [noteF_split, noteF_split (Pure.keepX q N len), HK.out.2 (q' / 7) (by omega)]
  · rw [he]
    obtain ⟨hkl, _⟩ := Pure.keep_none q N k0 hlow
    have hkx : ∀ j, j < k0 → Pure.keepX q N k0 j = N j := (Pure.keep_none q N k0 hlow).2
    obtain ⟨hlen, ⟨_, h0⟩ | ⟨g, cap', cur0, hs, hg, hcur, hlc, hcm, hsz, htk⟩⟩ := HO.out
    · omega
    simp only [Value.slice.injEq] at hs
    obtain ⟨rfl, _, rfl⟩ := hs
    have hc0 : ∀ q', q' < len * 7 → cur0[q']? = some (noteF N q') := fun q' hq => by
      have h1 := valsCells_get (F := noteF N) hq
      rw [← htk, List.getElem?_take_of_lt (by omega)] at h1
      simpa using h1
    have hneq : ((k0 : Int) == -1) = false := beq_eq_false_iff_ne.2 (by omega)
    have HST := Lib.hid (And.intro hc0 (And.intro hsz (And.intro hlc (And.intro hcm hg))))
    have HCU := Lib.hid (heap_lft hcur HB1.out)
    have HKL := Lib.hid (And.intro hkl (And.intro hkx hq0))
    clear he hc0 hsz htk hlc hcm hg hcur hlen hkl hkx hq0 hlow
    go_wp2_with fail
    go_loopw [5, 6] (fun i j wr => ∃ (x y : Nat) (cur : Array Value), i = .int .i64 x ∧ j = .int .i64 y ∧ x < y ∧ y ≤ len ∧ x = Pure.keepN q y ∧ wr.heap[g]? = some (.cells cur 34) ∧ cur.size = cap * 7 ∧ (∀ q', q' < x * 7 → cur[q']? = some (noteF (Pure.keepX q N y) q')) ∧ (∀ q', y * 7 ≤ q' → q' < len * 7 → cur[q']? = some (noteF N q')) ∧ BelowBut base g w wr) (fun _ j _ => len - (intOf j).toNat)
    case atStart => exact ⟨k0, k0 + 1, cur0, rfl, by go_num, by omega, by omega, by simp [Pure.keepN, HKL.out.2.2, HKL.out.1], HCU.out, HST.out.2.1, fun q' hq => by
      have e1 : Pure.keepX q N (k0 + 1) = Pure.keepX q N k0 := by simp [Pure.keepX, HKL.out.2.2]
      rw [HST.out.1 q' (by omega), noteF_split, noteF_split (Pure.keepX q N (k0 + 1)), e1, HKL.out.2.1 (q' / 7) (by omega)], fun q' _ hq => HST.out.1 q' hq, ⟨HB1.out.mono HBS.out, fun i hi _ => HB1.out.block i hi⟩⟩
    case round =>
      obtain ⟨x, y, cur, rfl, rfl, hxy, hyl, hxk, hcu, hcs, hc1, hc2, hb⟩ := hrel
      have HCx := Lib.hid hcu
      have HCS := Lib.hid hcs
      have HC1 := Lib.hid hc1
      have HC2 := Lib.hid hc2
      have HBx := Lib.hid hb
      have HXK := Lib.hid hxk
      clear hcu hcs hc1 hc2 hb hxk
      by_cases hlt : y < len
      · have c0 := heap_cell HCx.out ((HC2.out (y * 7) (by omega) (by omega)).trans (congrArg some (noteF_0 N y)))
        have c1 := heap_cell HCx.out ((HC2.out (y * 7 + 1) (by omega) (by omega)).trans (congrArg some (noteF_1 N y)))
        have c2 := heap_cell HCx.out ((HC2.out (y * 7 + 2) (by omega) (by omega)).trans (congrArg some (noteF_2 N y)))
        have c3 := heap_cell HCx.out ((HC2.out (y * 7 + 3) (by omega) (by omega)).trans (congrArg some (noteF_3 N y)))
        have c4 := heap_cell HCx.out ((HC2.out (y * 7 + 4) (by omega) (by omega)).trans (congrArg some (noteF_4 N y)))
        have c5 := heap_cell HCx.out ((HC2.out (y * 7 + 5) (by omega) (by omega)).trans (congrArg some (noteF_5 N y)))
        have c6 := heap_cell HCx.out ((HC2.out (y * 7 + 6) (by omega) (by omega)).trans (congrArg some (noteF_6 N y)))
        have HPY := Lib.hid (HPP.out (wr.alloc (tnoteB (N y))) y hlt (HBx.out.andThen HBS.out (below_new _ _)).b)
        have n1 : (y : Int) < len := by omega
        obtain ⟨qy, hqy⟩ : ∃ b, q y = b := ⟨_, rfl⟩
        rw [hqy] at HPY
        have HQY := Lib.hid hqy
        clear hqy
        go_wp2_with fail
        refine HPY.out.mono ?_
        rintro e u ⟨rfl, hb2⟩
        clear c0 c1 c2 c3 c4 c5 c6
        have hbu : Below wr.heap.size wr u := (below_new _ _).trans (hb2.mono (by simp))
        have HXU := Lib.hid (heap_lft (heap_top wr (tnoteB (N y)) rfl) hb2)
        have HCU2 := Lib.hid (heap_lft HCx.out hbu)
        have HBU := Lib.hid (HBx.out.andThen HBS.out hbu)
        clear hb2 hbu
        cases qy
        · have u0 := heap_cell HXU.out (j := 0) rfl
          have u1 := heap_cell HXU.out (j := 1) rfl
          have u2 := heap_cell HXU.out (j := 2) rfl
          have u3 := heap_cell HXU.out (j := 3) rfl
          have u4 := heap_cell HXU.out (j := 4) rfl
          have u5 := heap_cell HXU.out (j := 5) rfl
          have u6 := heap_cell HXU.out (j := 6) rfl
          have hcz : x * 7 + 6 < cur.size := by have := HCS.out; have := HST.out.2.2.1; omega
          obtain ⟨z0, d0⟩ := cell_ex HCU2.out (show x * 7 < cur.size by omega)
          have f0 := heap_frozen HCU2.out (x * 7)
          obtain ⟨z1, d1⟩ := cell_ex HCU2.out (show x * 7 + 1 < cur.size by omega)
          have f1 := heap_frozen HCU2.out (x * 7 + 1)
          obtain ⟨z2, d2⟩ := cell_ex HCU2.out (show x * 7 + 2 < cur.size by omega)
          have f2 := heap_frozen HCU2.out (x * 7 + 2)
          obtain ⟨z3, d3⟩ := cell_ex HCU2.out (show x * 7 + 3 < cur.size by omega)
          have f3 := heap_frozen HCU2.out (x * 7 + 3)
          obtain ⟨z4, d4⟩ := cell_ex HCU2.out (show x * 7 + 4 < cur.size by omega)
          have f4 := heap_frozen HCU2.out (x * 7 + 4)
          obtain ⟨z5, d5⟩ := cell_ex HCU2.out (show x * 7 + 5 < cur.size by omega)
          have f5 := heap_frozen HCU2.out (x * 7 + 5)
          obtain ⟨z6, d6⟩ := cell_ex HCU2.out (show x * 7 + 6 < cur.size by omega)
          have f6 := heap_frozen HCU2.out (x * 7 + 6)
          have HCZ := Lib.hid hcz
          clear hcz
          have n2 : (x : Int) < len := by omega
          have HG := Lib.hid HST.out.2.2.2.2
          go_wp2_with fail
          go_roundw
          case rel => exact ⟨x + 1, y + 1, (((((((cur).setIfInBounds (x * 7) (.int .i64 (N y).n)).setIfInBounds (x * 7 + 1) (.int .i64 (N y).m1)).setIfInBounds (x * 7 + 2) (.int .i64 (N y).p1)).setIfInBounds (x * 7 + 3) (.bool (N y).b1)).setIfInBounds (x * 7 + 4) (.int .i64 (N y).m2)).setIfInBounds (x * 7 + 5) (.int .i64 (N y).p2)).setIfInBounds (x * 7 + 6) (.bool (N y).b2), by go_num, by go_num, by omega, by omega, by simp [Pure.keepN, HQY.out, ← HXK.out], (heap_set (heap_set (heap_set (heap_set (heap_set (heap_set (heap_set HCU2.out _ _) _ _) _ _) _ _) _ _) _ _) _ _), by simpa using HCS.out, fun q' hq => by
            have hz := HCZ.out
            by_cases h1 : q' < x * 7
            · rw [Array.getElem?_setIfInBounds_ne (by omega), Array.getElem?_setIfInBounds_ne (by omega), Array.getElem?_setIfInBounds_ne (by omega), Array.getElem?_setIfInBounds_ne (by omega), Array.getElem?_setIfInBounds_ne (by omega), Array.getElem?_setIfInBounds_ne (by omega), Array.getElem?_setIfInBounds_ne (by omega), HC1.out q' h1, noteF_split, noteF_split (Pure.keepX q N (y + 1)), Pure.keepX_old q N y (q' / 7) (by have := HXK.out; omega)]
            · have hkx : Pure.keepX q N (y + 1) x = N y := by simp [Pure.keepX, HQY.out, ← HXK.out]
              have h2 : q' = x * 7 ∨ q' = x * 7 + 1 ∨ q' = x * 7 + 2 ∨ q' = x * 7 + 3 ∨ q' = x * 7 + 4 ∨ q' = x * 7 + 5 ∨ q' = x * 7 + 6 := by omega
              rcases h2 with rfl | rfl | rfl | rfl | rfl | rfl | rfl
              · rw [Array.getElem?_setIfInBounds_ne (by omega), Array.getElem?_setIfInBounds_ne (by omega), Array.getElem?_setIfInBounds_ne (by omega), Array.getElem?_setIfInBounds_ne (by omega), Array.getElem?_setIfInBounds_ne (by omega), Array.getElem?_setIfInBounds_ne (by omega), Array.getElem?_setIfInBounds_self_of_lt (by first | omega | (simp; omega)), show noteF (Pure.keepX q N (y + 1)) (x * 7) = _ from noteF_0 _ x, hkx]
              · rw [Array.getElem?_setIfInBounds_ne (by omega), Array.getElem?_setIfInBounds_ne (by omega), Array.getElem?_setIfInBounds_ne (by omega), Array.getElem?_setIfInBounds_ne (by omega), Array.getElem?_setIfInBounds_ne (by omega), Array.getElem?_setIfInBounds_self_of_lt (by first | omega | (simp; omega)), noteF_1, hkx]
              · rw [Array.getElem?_setIfInBounds_ne (by omega), Array.getElem?_setIfInBounds_ne (by omega), Array.getElem?_setIfInBounds_ne (by omega), Array.getElem?_setIfInBounds_ne (by omega), Array.getElem?_setIfInBounds_self_of_lt (by first | omega | (simp; omega)), noteF_2, hkx]
              · rw [Array.getElem?_setIfInBounds_ne (by omega), Array.getElem?_setIfInBounds_ne (by omega), Array.getElem?_setIfInBounds_ne (by omega), Array.getElem?_setIfInBounds_self_of_lt (by first | omega | (simp; omega)), noteF_3, hkx]
              · rw [Array.getElem?_setIfInBounds_ne (by omega), Array.getElem?_setIfInBounds_ne (by omega), Array.getElem?_setIfInBounds_self_of_lt (by first | omega | (simp; omega)), noteF_4, hkx]
              · rw [Array.getElem?_setIfInBounds_ne (by omega), Array.getElem?_setIfInBounds_self_of_lt (by first | omega | (simp; omega)), noteF_5, hkx]
              · rw [Array.getElem?_setIfInBounds_self_of_lt (by first | omega | (simp; omega)), noteF_6, hkx], fun q' hq hq2 => by
            rw [Array.getElem?_setIfInBounds_ne (by omega), Array.getElem?_setIfInBounds_ne (by omega), Array.getElem?_setIfInBounds_ne (by omega), Array.getElem?_setIfInBounds_ne (by omega), Array.getElem?_setIfInBounds_ne (by omega), Array.getElem?_setIfInBounds_ne (by omega), Array.getElem?_setIfInBounds_ne (by omega)]
            exact HC2.out q' (by omega) hq2, (((((((HBU.out.set HG.out _ _).set HG.out _ _).set HG.out _ _).set HG.out _ _).set HG.out _ _).set HG.out _ _).set HG.out _ _)⟩
          case measure => simp [intOf]; omega
        · go_wp2_with fail
          go_roundw
          case rel => exact ⟨x, y + 1, cur, rfl, by go_num, by omega, by omega, by simp [Pure.keepN, HQY.out, ← HXK.out], HCU2.out, HCS.out, fun q' hq => by
            have e1 : Pure.keepX q N (y + 1) = Pure.keepX q N y := by simp [Pure.keepX, HQY.out]
            rw [e1]; exact HC1.out q' hq, fun q' hq hq2 => HC2.out q' (by omega) hq2, HBU.out⟩
          case measure => simp [intOf]; omega
      · obtain rfl : y = len := by omega
        have hlc := HST.out.2.2.1
        have hcs := HCS.out
        have HG := Lib.hid HST.out.2.2.2.2
        have hz : ∀ w, (zeroValue 34).run Tryz.prog w = .ok (.agg #[.int .i64 0, .int .i64 0, .int .i64 0, .bool false, .int .i64 0, .int .i64 0, .bool false]) w := fun w => by kernel_rfl
        have hcl : ∀ ty, (Builtin.clear_ #[28] ty #[.slice (some ⟨g, x * 7, none⟩) (y - x) (cap - x)]).run Tryz.prog wr = .ok (.tuple #[]) (wr.setCells g (x * 7) (Builtin.zeroCells (Value.cells (.agg #[.int .i64 0, .int .i64 0, .int .i64 0, .bool false, .int .i64 0, .int .i64 0, .bool false])) (y - x)).toList) := fun ty =>
          run_clear_vals wr _ _ ty 7 (by decide) _ Tryz.underlying28 hz rfl (fun i h => by
            have h7 : i = 0 ∨ i = 1 ∨ i = 2 ∨ i = 3 ∨ i = 4 ∨ i = 5 ∨ i = 6 := by have h' : i < 7 := h; omega
            rcases h7 with rfl | rfl | rfl | rfl | rfl | rfl | rfl <;> rfl) g (x * 7) (y - x) (cap - x) (by omega) (fun j hj => by obtain ⟨v, hv⟩ := cell_ex HCx.out (show x * 7 + j < cur.size by omega); rw [hv]; rfl) (fun j _ => heap_frozen HCx.out _)
        obtain ⟨ZL, hZL⟩ : ∃ ZL, (Builtin.zeroCells (Value.cells (.agg #[.int .i64 0, .int .i64 0, .int .i64 0, .bool false, .int .i64 0, .int .i64 0, .bool false])) (y - x)).toList = ZL := ⟨_, rfl⟩
        rw [hZL] at hcl
        obtain ⟨Z, hZ⟩ : ∃ Z, wr.setCells g (x * 7) ZL = Z := ⟨_, rfl⟩
        obtain ⟨cur', hc', hs', hk'⟩ := heap_setCells g ZL (x * 7) wr cur HCx.out
        have hbz := but_setCells g HG.out ZL (x * 7) wr HBx.out
        rw [hZ] at hcl hc' hbz
        have HBZ := Lib.hid hbz
        have HOZ : Hid (OwnVals Z base 34 7 (some ⟨g, 0, none⟩) x cap (noteF (Pure.keepX q N y))) := Lib.hid ⟨valsCells_length _ _, .inr ⟨g, cap, cur', rfl, HG.out, hc', by omega, HST.out.2.2.2.1, by rw [hs', hcs], by
          apply List.ext_getElem?
          intro q'
          by_cases hq : q' < x * 7
          · rw [List.getElem?_take_of_lt hq, valsCells_get hq]
            have := hk' q' hq
            rw [HC1.out q' hq] at this
            simpa using this
          · rw [List.getElem?_eq_none (by simp; omega), List.getElem?_eq_none (by rw [valsCells_length]; omega)]⟩⟩
        have n2 : (x : Int) ≤ (y : Int) := by omega
        have n3 : (x : Int) ≤ cap := by omega
        have n4 : (y : Int) ≤ cap := by omega
        have n5 : ¬ (cap = x) := by omega
        clear hZ hc' hs' hk' hbz hz hcs hZL
        go_wp2_with fail
        go_ret
        rw [← HXK.out]
        exact ⟨rfl, HOZ.out, HBZ.out.b, fun i hi h => HBZ.out.o i hi (h _ rfl)⟩

end Go.Proofs.YtijfdfplebbaaaaGreat
