/-
  The contract of slices.DeleteFunc at sales, by Id.
-/
import Derived.Test.YtknpdjbokgenpaaPRefuse
namespace Go.Proofs.Ytknpdjbokgenpaa
open Go.RowKit

theorem run_clear_rows {P : Program} (w : World) (t e ty : TypeId) (k : Nat) (hk0 : 0 < k) (z : Value) (ht : P.underlying t = some (.slice e)) (hv : ∀ w, (zeroValue e).run P w = .ok z w) (hz : z.cells = Array.replicate k (.int .i64 0)) (b o n c : Nat) (hn : 0 < n)
    (hc : ∀ j, j < n * k → (w.cell? ⟨b, o + j, none⟩).isSome = true) (hf : ∀ j, j < n * k → w.frozen? ⟨b, o + j, none⟩ = false) :
    (Builtin.clear_ #[t] ty #[.slice (some ⟨b, o, none⟩) n c]).run P w = .ok (.tuple #[]) (w.setCells b o (List.replicate (n * k) (.int .i64 0))) := by
  have hzc : (Builtin.zeroCells z.cells n).toList = List.replicate (n * k) (.int .i64 0) := by
    rw [hz]
    apply List.ext_getElem
    · simp [Builtin.zeroCells]
    · intro i h1 h2
      have hm : i % k < k := Nat.mod_lt _ hk0
      simp [Builtin.zeroCells, hm]
  have hst := run_storeCells_cells (P := P) b o (List.replicate (n * k) (.int .i64 0)) 0 w (by simpa using hc) (by simpa using hf) (by intro v hv'; rw [List.eq_of_mem_replicate hv']; rfl)
  simp only [Nat.add_zero] at hst
  obtain ⟨m, rfl⟩ : ∃ m, n = m + 1 := ⟨n - 1, by omega⟩
  simp [Builtin.clear_, run_underlying ht, hv, hzc, hst]
/-- What stands in a block behind stores in it. -/
theorem heap_setCells {t : TypeId} (g : Nat) : ∀ (vs : List Value) (o : Nat) (w : World) (cur : Array Value), w.heap[g]? = some (.cells cur t) →
    ∃ cur', (w.setCells g o vs).heap[g]? = some (.cells cur' t) ∧ cur'.size = cur.size ∧ ∀ i, i < o → cur'[i]? = cur[i]?
  | [], _, _, cur, h => ⟨cur, h, rfl, fun _ _ => rfl⟩
  | v :: r, o, w, cur, h => by
    obtain ⟨cur', h1, h2, h3⟩ := heap_setCells g r (o + 1) (w.setCell ⟨g, o, none⟩ v) (cur.setIfInBounds o v) (heap_set h o v)
    refine ⟨cur', h1, by rw [h2]; simp, fun i hi => ?_⟩
    rw [h3 i (by omega), Array.getElem?_setIfInBounds_ne (by omega)]
theorem below_setCells {base : Nat} {w : World} (g : Nat) (hg : base ≤ g) : ∀ (vs : List Value) (o : Nat) (v : World), Below base w v → Below base w (v.setCells g o vs)
  | [], _, _, h => h
  | _ :: r, o, _, h => below_setCells g hg r (o + 1) _ (h.setCell hg _)

namespace Pure
theorem keep_none {F : Nat → Int} {id : Int} : ∀ {k : Nat}, (∀ j, j < k → F (j * 4) ≠ id) → keepN F id k = k ∧ ∀ q, q < k * 4 → keepG F id k q = F q
  | 0, _ => ⟨rfl, fun q hq => by omega⟩
  | k + 1, h => by
    obtain ⟨h1, h2⟩ := keep_none (k := k) (fun j hj => h j (by omega))
    have h3 := h k (by omega)
    refine ⟨by simp only [keepN]; rw [if_neg h3, h1], fun q hq => ?_⟩
    simp only [keepG]
    rw [if_neg h3, h1]
    by_cases hq1 : q < k * 4
    · rw [if_pos hq1]; exact h2 q hq1
    · rw [if_neg hq1, show k * 4 + (q - k * 4) = q by omega]
theorem firstAt_cases (q : Nat → Bool) (len : Nat) : (firstAt q len = -1 ∧ ∀ j, j < len → q j = false) ∨ ∃ x : Nat, x < len ∧ firstAt q len = x ∧ q x = true ∧ ∀ j, j < x → q j = false := by
  unfold firstAt
  cases h : (List.range len).find? q with
  | none =>
    left
    refine ⟨rfl, fun j hj => ?_⟩
    have := List.find?_eq_none.1 h j (List.mem_range.2 hj)
    simpa using this
  | some x =>
    right
    rw [List.find?_range_eq_some] at h
    obtain ⟨h1, h2, h3⟩ := h
    exact ⟨x, List.mem_range.1 h2, rfl, h1, fun j hj => by have := h3 j hj; simpa using this⟩
end Pure
/-- Below base as it was; above it only the object g is touched. -/
structure BelowBut (base g : Nat) (w w' : World) : Prop where
  b : Below base w w'
  o : ∀ i, i < w.heap.size → i ≠ g → w'.heap[i]? = w.heap[i]?
theorem BelowBut.andThen {base g : Nat} {w u v : World} (h : BelowBut base g w u) (hb : base ≤ w.heap.size) (k : Below u.heap.size u v) : BelowBut base g w v :=
  ⟨h.b.trans (k.mono (Nat.le_trans hb h.b.size)), fun i hi hg => (k.block i (Nat.lt_of_lt_of_le hi h.b.size)).trans (h.o i hi hg)⟩
theorem BelowBut.set {base g : Nat} {w u : World} (h : BelowBut base g w u) (hg : base ≤ g) (j : Nat) (v : Value) : BelowBut base g w (u.setCell ⟨g, j, none⟩ v) :=
  ⟨h.b.setCell hg v, fun i hi hn => (Below.heap_setCell _ _ _ _ hn).trans (h.o i hi hn)⟩
theorem but_setCells {base : Nat} {w : World} (g : Nat) (hg : base ≤ g) : ∀ (vs : List Value) (o : Nat) (v : World), BelowBut base g w v → BelowBut base g w (v.setCells g o vs)
  | [], _, _, h => h
  | _ :: r, o, _, h => but_setCells g hg r (o + 1) _ (h.set hg _ _)

theorem numsCells_congr {n : Nat} {F G : Nat → Int} (h : ∀ q, q < n → F q = G q) : numsCells n F = numsCells n G := by
  unfold numsCells
  exact List.map_congr_left fun q hq => by rw [h q (List.mem_range.1 hq)]

set_option maxHeartbeats 4000000 in
set_option maxRecDepth 100000 in
theorem delete_any (B : Nat) (id : Int) (bt : TypeId) (a : Option Addr) (len cap : Nat) (F : Nat → Int) (base : Nat) (hl : len ≤ 40) (w : World) (hB : w.heap[B]? = some (.cells #[.int .i64 id] bt)) (hbase : base ≤ w.heap.size) (hBb : B < base) (h : OwnNums w base 28 4 a len cap F) :
    Calls Try.prog 24 #[.slice a len cap, .func (.func 25) #[] #[.pointer (some ⟨B, 0, none⟩)]] w fun e w' =>
      ∃ a' cap', e = .returned (.slice a' (Pure.keepN F id len) cap') ∧ OwnNums w' base 28 4 a' (Pure.keepN F id len) cap' (Pure.keepG F id len) ∧ Below base w w' ∧ ∀ i, i < w.heap.size → (∀ b, a = some b → i ≠ b.block) → w'.heap[i]? = w.heap[i]? := by
  have HO := Lib.hid h
  have HI := Lib.hid hB
  have HBB := Lib.hid (And.intro hbase hBb)
  clear h hB hbase hBb
  go_enter Try.func24, Try.ntmps24
  go_wp2_with fail
  refine (indexDel_any B a len cap F (fun j => F (j * 4) == id) hl w HO.out.nums (fun u j hj hb => byId_any B id _ _ _ _ bt u (heap_lft HI.out hb))).mono ?_
  rintro e w1 ⟨rfl, hb1⟩
  have HB1 := Lib.hid hb1
  clear hb1
  rcases Pure.firstAt_cases (fun j => F (j * 4) == id) len with ⟨he, hq⟩ | ⟨x0, hx, he, hqx, hq⟩
  · rw [he]
    have hk := Pure.keep_none (F := F) (id := id) (k := len) (fun j hj => by have := hq j hj; simpa using this)
    have HK := Lib.hid hk
    clear he hq hk
    go_wp2_with fail
    go_ret
    refine ⟨a, cap, by rw [HK.out.1]; rfl, ?_, HB1.out.mono HBB.out.1, fun i hi _ => HB1.out.block i hi⟩
    rw [HK.out.1]
    unfold OwnNums
    rw [numsCells_congr HK.out.2]
    exact HO.out.below HB1.out
  · rw [he]
    obtain ⟨hlen, ⟨_, h0⟩ | ⟨g, cap', cur0, hs, hg, hcur, hlc, hcm, hsz, htk⟩⟩ := HO.out
    · omega
    simp only [Value.slice.injEq] at hs
    obtain ⟨rfl, _, rfl⟩ := hs
    have hk := Pure.keep_none (F := F) (id := id) (k := x0) (fun j hj => by have := hq j hj; simpa using this)
    have hid : F (x0 * 4) = id := by simpa using hqx
    have hk1 : Pure.keepN F id (x0 + 1) = x0 := by simp only [Pure.keepN]; rw [if_pos hid]; exact hk.1
    have hk2 : ∀ q, q < x0 * 4 → Pure.keepG F id (x0 + 1) q = F q := fun q hq => by simp only [Pure.keepG]; rw [if_pos hid]; exact hk.2 q hq
    have hc0 : ∀ q, q < len * 4 → cur0[q]? = some (.int .i64 (F q)) := fun q hq => by
      have h1 := numsCells_get (F := F) hq
      rw [← htk, List.getElem?_take_of_lt (by omega)] at h1
      simpa using h1
    have hneq : ((x0 : Int) == -1) = false := beq_eq_false_iff_ne.2 (by omega)
    have HST := Lib.hid (And.intro hx (And.intro hk1 (And.intro hk2 (And.intro hc0 (And.intro hsz (And.intro hlc (And.intro hcm hg)))))))
    have HCU := Lib.hid (heap_lft hcur HB1.out)
    have HI1 := Lib.hid (heap_lft HI.out HB1.out)
    clear he hqx hq hk hid hk1 hk2 hc0 hsz htk hlc hcm hg hcur hlen
    go_wp2_with fail
    go_loopw [5, 6] (fun i j wr => ∃ (x y : Nat) (cur : Array Value), i = .int .i64 x ∧ j = .int .i64 y ∧ y ≤ len ∧ x < y ∧ Pure.keepN F id y = x ∧ wr.heap[g]? = some (.cells cur 28) ∧ cur.size = cap * 4 ∧ (∀ q, q < x * 4 → cur[q]? = some (.int .i64 (Pure.keepG F id y q))) ∧ (∀ q, y * 4 ≤ q → q < len * 4 → cur[q]? = some (.int .i64 (F q))) ∧ wr.heap[B]? = some (.cells #[.int .i64 id] bt) ∧ BelowBut base g w wr) (fun _ j _ => len - (intOf j).toNat)
    case atStart => exact ⟨x0, x0 + 1, cur0, rfl, by go_num, by have := HST.out.1; omega, by omega, HST.out.2.1, HCU.out, HST.out.2.2.2.2.1, fun q hq => by rw [HST.out.2.2.1 q hq]; exact HST.out.2.2.2.1 q (by have := HST.out.1; omega), fun q _ hq => HST.out.2.2.2.1 q hq, HI1.out, ⟨HB1.out.mono HBB.out.1, fun i hi _ => HB1.out.block i hi⟩⟩
    case round =>
      obtain ⟨x, y, cur, rfl, rfl, hyl, hxy, hkn, hcu, hcs, hc1, hc2, hid, hb⟩ := hrel
      have HCx := Lib.hid hcu
      have HCS := Lib.hid hcs
      have HC1 := Lib.hid hc1
      have HC2 := Lib.hid hc2
      have HID := Lib.hid hid
      have HBx := Lib.hid hb
      have HKN := Lib.hid hkn
      clear hcu hcs hc1 hc2 hid hb hkn
      by_cases hlt : y < len
      · have c0 := heap_cell HCx.out (HC2.out (y * 4) (by omega) (by omega))
        have c1 := heap_cell HCx.out (HC2.out (y * 4 + 1) (by omega) (by omega))
        have c2 := heap_cell HCx.out (HC2.out (y * 4 + 2) (by omega) (by omega))
        have c3 := heap_cell HCx.out (HC2.out (y * 4 + 3) (by omega) (by omega))
        have n1 : (y : Int) < len := by omega
        go_wp2_with fail
        refine (byId_any B id _ _ _ _ bt _ (heap_up HID.out _)).mono ?_
        rintro e u ⟨rfl, hb2⟩
        clear c0 c1 c2 c3
        have hbu : Below wr.heap.size wr u := (below_new _ _).trans (hb2.mono (by simp))
        have HXU := Lib.hid (heap_lft (heap_top wr (saleB (F (y * 4)) (F (y * 4 + 1)) (F (y * 4 + 2)) (F (y * 4 + 3))) rfl) hb2)
        have HCU2 := Lib.hid (heap_lft HCx.out hbu)
        have HIU := Lib.hid (heap_lft HID.out hbu)
        have HBU := Lib.hid (HBx.out.andThen HBB.out.1 hbu)
        clear hb2 hbu
        by_cases he : F (y * 4) = id
        · have hbe : (F (y * 4) == id) = true := by simpa using he
          rw [hbe]
          have hkn : Pure.keepN F id (y + 1) = x := by simp only [Pure.keepN]; rw [if_pos he]; exact HKN.out
          have hkg : Pure.keepG F id (y + 1) = Pure.keepG F id y := by simp only [Pure.keepG]; rw [if_pos he]
          have HK1 := Lib.hid hkn
          have HK2 := Lib.hid hkg
          clear he hbe hkn hkg
          go_wp2_with fail
          go_roundw
          case rel => exact ⟨x, y + 1, cur, rfl, by go_num, by omega, by omega, HK1.out, HCU2.out, HCS.out, fun q hq => by rw [HK2.out]; exact HC1.out q hq, fun q hq hq2 => HC2.out q (by omega) hq2, HIU.out, HBU.out⟩
          case measure => simp [intOf]; omega
        · have hbe : (F (y * 4) == id) = false := by simpa using he
          rw [hbe]
          have hkn : Pure.keepN F id (y + 1) = x + 1 := by simp only [Pure.keepN]; rw [if_neg he, HKN.out]
          have hkg : Pure.keepG F id (y + 1) = fun q => if q < x * 4 then Pure.keepG F id y q else F (y * 4 + (q - x * 4)) := by simp only [Pure.keepG]; rw [if_neg he, HKN.out]
          have HK1 := Lib.hid hkn
          have HK2 := Lib.hid hkg
          clear he hbe hkn hkg
          have u0 := heap_cell HXU.out (j := 0) rfl
          have u1 := heap_cell HXU.out (j := 1) rfl
          have u2 := heap_cell HXU.out (j := 2) rfl
          have u3 := heap_cell HXU.out (j := 3) rfl
          have hcz : x * 4 + 3 < cur.size := by have := HCS.out; have := HST.out.2.2.2.2.2.1; omega
          obtain ⟨z0, d0⟩ := cell_ex HCU2.out (show x * 4 < cur.size by omega)
          obtain ⟨z1, d1⟩ := cell_ex HCU2.out (show x * 4 + 1 < cur.size by omega)
          obtain ⟨z2, d2⟩ := cell_ex HCU2.out (show x * 4 + 2 < cur.size by omega)
          obtain ⟨z3, d3⟩ := cell_ex HCU2.out (show x * 4 + 3 < cur.size by omega)
          have f0 := heap_frozen HCU2.out (x * 4)
          have f1 := heap_frozen HCU2.out (x * 4 + 1)
          have f2 := heap_frozen HCU2.out (x * 4 + 2)
          have f3 := heap_frozen HCU2.out (x * 4 + 3)
          have HCZ := Lib.hid hcz
          clear hcz
          have n1 : (x : Int) < len := by omega
          have HG := Lib.hid HST.out.2.2.2.2.2.2.2
          go_wp2_with fail
          go_roundw
          case rel => exact ⟨x + 1, y + 1, (((cur.setIfInBounds (x * 4) (.int .i64 (F (y * 4)))).setIfInBounds (x * 4 + 1) (.int .i64 (F (y * 4 + 1)))).setIfInBounds (x * 4 + 2) (.int .i64 (F (y * 4 + 2)))).setIfInBounds (x * 4 + 3) (.int .i64 (F (y * 4 + 3))), by go_num, by go_num, by omega, by omega, HK1.out, heap_set (heap_set (heap_set (heap_set HCU2.out _ _) _ _) _ _) _ _, by simpa using HCS.out, fun q hq => by
            rw [HK2.out]
            have hz := HCZ.out
            by_cases h1 : q < x * 4
            · rw [Array.getElem?_setIfInBounds_ne (by omega), Array.getElem?_setIfInBounds_ne (by omega), Array.getElem?_setIfInBounds_ne (by omega), Array.getElem?_setIfInBounds_ne (by omega), HC1.out q h1]
              simp [h1]
            · have h2 : q = x * 4 ∨ q = x * 4 + 1 ∨ q = x * 4 + 2 ∨ q = x * 4 + 3 := by omega
              rcases h2 with rfl | rfl | rfl | rfl
              · rw [Array.getElem?_setIfInBounds_ne (by omega), Array.getElem?_setIfInBounds_ne (by omega), Array.getElem?_setIfInBounds_ne (by omega), Array.getElem?_setIfInBounds_self_of_lt (by omega)]; simp
              · rw [Array.getElem?_setIfInBounds_ne (by omega), Array.getElem?_setIfInBounds_ne (by omega), Array.getElem?_setIfInBounds_self_of_lt (by simp; omega)]; dsimp only; rw [if_neg (by omega), show x * 4 + 1 - x * 4 = 1 by omega]
              · rw [Array.getElem?_setIfInBounds_ne (by omega), Array.getElem?_setIfInBounds_self_of_lt (by simp; omega)]; dsimp only; rw [if_neg (by omega), show x * 4 + 2 - x * 4 = 2 by omega]
              · rw [Array.getElem?_setIfInBounds_self_of_lt (by simp; omega)]; dsimp only; rw [if_neg (by omega), show x * 4 + 3 - x * 4 = 3 by omega], fun q hq hq2 => by
            rw [Array.getElem?_setIfInBounds_ne (by omega), Array.getElem?_setIfInBounds_ne (by omega), Array.getElem?_setIfInBounds_ne (by omega), Array.getElem?_setIfInBounds_ne (by omega)]
            exact HC2.out q (by omega) hq2, (by
            have hne : B ≠ g := by have := HBB.out.2; have := HG.out; omega
            exact (Below.heap_setCell _ _ _ _ hne).trans ((Below.heap_setCell _ _ _ _ hne).trans ((Below.heap_setCell _ _ _ _ hne).trans ((Below.heap_setCell _ _ _ _ hne).trans HIU.out)))), (((HBU.out.set HG.out _ _).set HG.out _ _).set HG.out _ _).set HG.out _ _⟩
          case measure => simp [intOf]; omega
      · obtain rfl : len = y := by omega
        have hlc := HST.out.2.2.2.2.2.1
        have hcs := HCS.out
        have HG := Lib.hid HST.out.2.2.2.2.2.2.2
        have hz : ∀ w, (zeroValue 28).run Try.prog w = .ok (.agg #[.int .i64 0, .int .i64 0, .int .i64 0, .int .i64 0]) w := fun w => by kernel_rfl
        have hcl : ∀ ty, (Builtin.clear_ #[24] ty #[.slice (some ⟨g, x * 4, none⟩) (len - x) (cap - x)]).run Try.prog wr = .ok (.tuple #[]) (wr.setCells g (x * 4) (List.replicate ((len - x) * 4) (.int .i64 0))) := fun ty =>
          run_clear_rows wr _ _ ty 4 (by decide) _ Try.underlying24 hz rfl g (x * 4) (len - x) (cap - x) (by omega) (fun j hj => by obtain ⟨v, hv⟩ := cell_ex HCx.out (show x * 4 + j < cur.size by omega); rw [hv]; rfl) (fun j _ => heap_frozen HCx.out _)
        obtain ⟨Z, hZ⟩ : ∃ Z, wr.setCells g (x * 4) (List.replicate ((len - x) * 4) (.int .i64 0)) = Z := ⟨_, rfl⟩
        obtain ⟨cur', hc', hs', hk'⟩ := heap_setCells g (List.replicate ((len - x) * 4) (.int .i64 0)) (x * 4) wr cur HCx.out
        have hbz := but_setCells g HG.out (List.replicate ((len - x) * 4) (.int .i64 0)) (x * 4) wr HBx.out
        rw [hZ] at hcl hc' hbz
        have HBZ := Lib.hid hbz
        have HOZ : Hid (OwnNums Z base 28 4 (some ⟨g, 0, none⟩) x cap (Pure.keepG F id len)) := Lib.hid ⟨numsCells_length _ _, .inr ⟨g, cap, cur', rfl, HG.out, hc', by omega, HST.out.2.2.2.2.2.2.1, by rw [hs', hcs], by
          apply List.ext_getElem?
          intro q
          by_cases hq : q < x * 4
          · rw [List.getElem?_take_of_lt hq, numsCells_get hq]
            have := hk' q hq
            rw [HC1.out q hq] at this
            simpa using this
          · rw [List.getElem?_eq_none (by simp; omega), List.getElem?_eq_none (by rw [numsCells_length]; omega)]⟩⟩
        have n1 : (x : Int) ≤ len := by omega
        have n2 : (len : Int) ≤ cap := by omega
        have n3 : (x : Int) ≤ cap := by omega
        clear hZ hc' hs' hk' hbz hz hcs
        go_wp2_with fail
        go_ret
        exact ⟨some ⟨g, 0, none⟩, cap, by rw [HKN.out]; rfl, by rw [HKN.out]; exact HOZ.out, HBZ.out.b, fun i hi h => HBZ.out.o i hi (h _ rfl)⟩

end Go.Proofs.Ytknpdjbokgenpaa
