/-
  The contract of what writes into all memory of a plan.
-/
import Derived.Test.YtknpdjbokgenpaaPSearch
namespace Go.Proofs.Ytknpdjbokgenpaa
open Go.RowKit

/-- A slice that may be written: its block is of the call's own memory. -/
def RowOk (w : World) (base top : Nat) (k : Nat) (a : Option Addr) (len : Nat) : Prop :=
  len = 0 ∨ ∃ g cur t, a = some ⟨g, 0, none⟩ ∧ base ≤ g ∧ g < top ∧ w.heap[g]? = some (.cells cur t) ∧ len * k ≤ cur.size
theorem OwnNums.row {w : World} {base : Nat} {t : TypeId} {k : Nat} {a : Option Addr} {len cap : Nat} {F : Nat → Int} (h : OwnNums w base t k a len cap F) : RowOk w base w.heap.size k a len := by
  obtain ⟨h0, h1 | ⟨g, cap', cur, he, hbase, hg, h2, _, h4, _⟩⟩ := h
  · exact .inl h1.2
  · simp only [Value.slice.injEq] at he
    obtain ⟨rfl, _, rfl⟩ := he
    exact .inr ⟨g, cur, t, rfl, hbase, (Array.getElem?_eq_some_iff.1 hg).1, hg, by rw [h4]; exact Nat.mul_le_mul_right _ h2⟩
theorem RowOk.below {w w' : World} {base top k : Nat} {a : Option Addr} {len : Nat} (h : RowOk w base top k a len) (hb : Below w.heap.size w w') : RowOk w' base top k a len := by
  rcases h with h | ⟨g, cur, t, h1, h2, h3, h4, h5⟩
  · exact .inl h
  · exact .inr ⟨g, cur, t, h1, h2, h3, heap_lft h4 hb, h5⟩
theorem RowOk.set {w : World} {base top k : Nat} {a : Option Addr} {len : Nat} (h : RowOk w base top k a len) (g' i : Nat) (u : Value) : RowOk (w.setCell ⟨g', i, none⟩ u) base top k a len := by
  rcases h with h | ⟨g, cur, t, h1, h2, h3, h4, h5⟩
  · exact .inl h
  · by_cases e : g = g'
    · subst e
      exact .inr ⟨g, cur.setIfInBounds i u, t, h1, h2, h3, heap_set h4 i u, by simpa using h5⟩
    · exact .inr ⟨g, cur, t, h1, h2, h3, (Below.heap_setCell _ _ _ _ e).trans h4, h5⟩
theorem cell_ex {w : World} {g i : Nat} {cur : Array Value} {t : TypeId} (h : w.heap[g]? = some (.cells cur t)) (hi : i < cur.size) : ∃ v, w.cell? ⟨g, i, none⟩ = some v := by
  refine ⟨cur[i], heap_cell h ?_⟩
  simp [hi]

/-- Below base as it was; above it only three arrays are touched, and no object's kind or size. -/
structure Wrote (base : Nat) (ta : Option Addr) (tn : Nat) (aa : Option Addr) (an : Nat) (sa : Option Addr) (sn : Nat) (w w' : World) : Prop where
  b : Below base w w'
  o : ∀ i, i < w.heap.size → (∀ x, 0 < tn → ta = some x → i ≠ x.block) → (∀ x, 0 < an → aa = some x → i ≠ x.block) → (∀ x, 0 < sn → sa = some x → i ≠ x.block) → w'.heap[i]? = w.heap[i]?
  s : ∀ (i : Nat) (cur : Array Value) (t : TypeId), w.heap[i]? = some (Obj.cells cur t) → ∃ cur' : Array Value, w'.heap[i]? = some (Obj.cells cur' t) ∧ cur'.size = cur.size
theorem Wrote.set {base : Nat} {ta : Option Addr} {tn : Nat} {aa : Option Addr} {an : Nat} {sa : Option Addr} {sn : Nat} {w u : World} (h : Wrote base ta tn aa an sa sn w u) {g : Nat} (hg : base ≤ g) (hw : (ta = some ⟨g, 0, none⟩ ∧ 0 < tn) ∨ (aa = some ⟨g, 0, none⟩ ∧ 0 < an) ∨ (sa = some ⟨g, 0, none⟩ ∧ 0 < sn)) (j : Nat) (v : Value) : Wrote base ta tn aa an sa sn w (u.setCell ⟨g, j, none⟩ v) :=
  ⟨h.b.setCell hg v, fun i hi h1 h2 h3 => by
    have hne : i ≠ g := by
      rcases hw with e | e | e
      · exact h1 _ e.2 e.1
      · exact h2 _ e.2 e.1
      · exact h3 _ e.2 e.1
    exact (Below.heap_setCell _ _ _ _ hne).trans (h.o i hi h1 h2 h3), fun i cur t hi => by
    obtain ⟨cur', k1, k2⟩ := h.s i cur t hi
    by_cases e : i = g
    · subst e
      exact ⟨_, heap_set k1 j v, by simpa using k2⟩
    · exact ⟨cur', (Below.heap_setCell _ _ _ _ e).trans k1, k2⟩⟩
theorem RowOk.far {w : World} {base top k : Nat} {a : Option Addr} {len : Nat} (h : RowOk w base top k a len) {L : Nat} (hL : top ≤ L) : ∀ x, 0 < len → a = some x → L ≠ x.block := fun x hn hx e => by
  rcases h with h | ⟨g, cur, t, h1, h2, h3, h4, h5⟩
  · omega
  · rw [h1] at hx
    cases hx
    dsimp only at e
    omega
/-- What spoil leaves of an object that is none of its arrays. -/
theorem Wrote.keep {base : Nat} {ta : Option Addr} {tn : Nat} {aa : Option Addr} {an : Nat} {sa : Option Addr} {sn : Nat} {w w' : World} (h : Wrote base ta tn aa an sa sn w w') {L : Nat} {o : Obj} (hL : w.heap[L]? = some o) {b1 k1 k2 k3 : Nat} (r1 : RowOk w b1 L k1 ta tn) (r2 : RowOk w b1 L k2 aa an) (r3 : RowOk w b1 L k3 sa sn) : w'.heap[L]? = some o :=
  (h.o L (Array.getElem?_eq_some_iff.1 hL).1 (r1.far (Nat.le_refl _)) (r2.far (Nat.le_refl _)) (r3.far (Nat.le_refl _))).trans hL
/-- What it leaves of a row. -/
theorem Wrote.rows {base : Nat} {ta : Option Addr} {tn : Nat} {aa : Option Addr} {an : Nat} {sa : Option Addr} {sn : Nat} {w w' : World} (h : Wrote base ta tn aa an sa sn w w') {b1 top k : Nat} {a : Option Addr} {len : Nat} (r : RowOk w b1 top k a len) : RowOk w' b1 top k a len := by
  rcases r with r | ⟨g, cur, t, h1, h2, h3, h4, h5⟩
  · exact .inl r
  · obtain ⟨cur', k1, k2⟩ := h.s g cur t h4
    exact .inr ⟨g, cur', t, h1, h2, h3, k1, by omega⟩
theorem RowOk.top {w : World} {base top top' k : Nat} {a : Option Addr} {len : Nat} (h : RowOk w base top k a len) (ht : top ≤ top') : RowOk w base top' k a len := by
  rcases h with h | ⟨g, cur, t, h1, h2, h3, h4, h5⟩
  · exact .inl h
  · exact .inr ⟨g, cur, t, h1, h2, by omega, h4, h5⟩

set_option maxHeartbeats 4000000 in
set_option maxRecDepth 100000 in
theorem spoil_any (p : PlanX) (base : Nat) (hn : p.tn ≤ 40) (ha : p.an ≤ 40) (hs : p.sn ≤ 40) (w : World) (hbase : base ≤ w.heap.size) (h1 : RowOk w base w.heap.size 1 p.ta p.tn) (h2 : RowOk w base w.heap.size 2 p.aa p.an) (h3 : RowOk w base w.heap.size 4 p.sa p.sn) :
    Calls Try.prog 13 #[planV p] w fun e w' => (∃ v, e = .returned v) ∧ Wrote base p.ta p.tn p.aa p.an p.sa p.sn w w' := by
  obtain ⟨fr, ta, tn, tc, sd, ck, aa, an, ac, sa, sn, sc, bu⟩ := p
  simp only at hn ha hs h1 h2 h3
  obtain ⟨W, hW⟩ : ∃ W, w.alloc (planB ⟨fr, ta, tn, tc, sd, ck, aa, an, ac, sa, sn, sc, bu⟩) = W := ⟨_, rfl⟩
  have hb0 : Below w.heap.size w W := by rw [← hW]; exact below_new _ _
  have HX : Hid (W.heap[w.heap.size]? = some (planB ⟨fr, ta, tn, tc, sd, ck, aa, an, ac, sa, sn, sc, bu⟩)) := Lib.hid (by rw [← hW]; exact heap_top _ _ rfl)
  have HB : Hid (Wrote base ta tn aa an sa sn w W) := Lib.hid ⟨hb0.mono hbase, fun i hi _ _ _ => hb0.block i hi, fun i cur t hi => ⟨cur, heap_lft hi hb0, rfl⟩⟩
  have R1 := Lib.hid (h1.below hb0)
  have R2 := Lib.hid (h2.below hb0)
  have R3 := Lib.hid (h3.below hb0)
  have HBS := Lib.hid hbase
  clear h1 h2 h3 hb0 hbase
  have x1 := heap_cell HX.out (j := 1) rfl
  go_enter Try.func13, Try.ntmps13
  go_upto_region 1 with fail
  try rw [hW]
  clear hW
  go_wp2_with fail
  go_loopw [2, 8] (fun _ i wr => ∃ k : Nat, k ≤ tn ∧ i = .int .i64 k ∧ wr.heap[w.heap.size]? = some (planB ⟨fr, ta, tn, tc, sd, ck, aa, an, ac, sa, sn, sc, bu⟩) ∧ RowOk wr base w.heap.size 1 ta tn ∧ RowOk wr base w.heap.size 2 aa an ∧ RowOk wr base w.heap.size 4 sa sn ∧ Wrote base ta tn aa an sa sn w wr) (fun _ i _ => tn - (intOf i).toNat)
  case atStart => exact ⟨0, Nat.zero_le _, rfl, HX.out, R1.out, R2.out, R3.out, HB.out⟩
  case round =>
    obtain ⟨k, hk, rfl, hx, r1, r2, r3, hb⟩ := hrel
    have HX1 := Lib.hid hx
    have R11 := Lib.hid r1
    have R21 := Lib.hid r2
    have R31 := Lib.hid r3
    have HB1 := Lib.hid hb
    clear hx r1 r2 r3 hb
    by_cases hk1 : k < tn
    · rcases R11.out with h0 | ⟨g, cur, t, h9, g1, g2, g3, g4⟩
      · exact absurd hk1 (by omega)
      · subst h9
        have n1 : (k : Int) < tn := by omega
        have y0 := heap_cell HX1.out (j := 1) rfl
        obtain ⟨cv, hcv⟩ := cell_ex g3 (show k < cur.size by omega)
        have hfz := heap_frozen g3 (k)
        have hne : g ≠ w.heap.size := by omega
        have G1 := Lib.hid g1
        have HNE := Lib.hid hne
        clear g1 g2 g3 g4 hne
        go_wp2_with fail
        go_roundw
        case rel => exact ⟨k + 1, by omega, by go_num, (Below.heap_setCell _ _ _ _ (by simpa using Ne.symm HNE.out)).trans HX1.out, R11.out.set _ _ _, R21.out.set _ _ _, R31.out.set _ _ _, HB1.out.set G1.out (.inl ⟨rfl, by omega⟩) _ _⟩
        case measure => simp [intOf]; omega
    · obtain rfl : tn = k := by omega
      have x4 := heap_cell HX1.out (j := 4) rfl
      go_wp2_with fail
      go_loopw [3, 19] (fun _ i wr => ∃ k : Nat, k ≤ an ∧ i = .int .i64 k ∧ wr.heap[w.heap.size]? = some (planB ⟨fr, ta, tn, tc, sd, ck, aa, an, ac, sa, sn, sc, bu⟩) ∧ RowOk wr base w.heap.size 1 ta tn ∧ RowOk wr base w.heap.size 2 aa an ∧ RowOk wr base w.heap.size 4 sa sn ∧ Wrote base ta tn aa an sa sn w wr) (fun _ i _ => an - (intOf i).toNat)
      case atStart => exact ⟨0, Nat.zero_le _, rfl, HX1.out, R11.out, R21.out, R31.out, HB1.out⟩
      case round =>
        obtain ⟨k, hk, rfl, hx, r1, r2, r3, hb⟩ := hrel
        have HX2 := Lib.hid hx
        have R12 := Lib.hid r1
        have R22 := Lib.hid r2
        have R32 := Lib.hid r3
        have HB2 := Lib.hid hb
        clear hx r1 r2 r3 hb
        by_cases hk1 : k < an
        · rcases R22.out with h0 | ⟨g, cur, t, h9, g1, g2, g3, g4⟩
          · exact absurd hk1 (by omega)
          · subst h9
            have n1 : (k : Int) < an := by omega
            have y0 := heap_cell HX2.out (j := 4) rfl
            obtain ⟨cv, hcv⟩ := cell_ex g3 (show k * 2 + 1 < cur.size by omega)
            have hfz := heap_frozen g3 (k * 2 + 1)
            have hne : g ≠ w.heap.size := by omega
            have G1 := Lib.hid g1
            have HNE := Lib.hid hne
            clear g1 g2 g3 g4 hne
            go_wp2_with fail
            go_roundw
            case rel => exact ⟨k + 1, by omega, by go_num, (Below.heap_setCell _ _ _ _ (by simpa using Ne.symm HNE.out)).trans HX2.out, R12.out.set _ _ _, R22.out.set _ _ _, R32.out.set _ _ _, HB2.out.set G1.out (.inr (.inl ⟨rfl, by omega⟩)) _ _⟩
            case measure => simp [intOf]; omega
        · obtain rfl : an = k := by omega
          have x5 := heap_cell HX2.out (j := 5) rfl
          go_wp2_with fail
          go_loopw [4, 31] (fun _ i wr => ∃ k : Nat, k ≤ sn ∧ i = .int .i64 k ∧ wr.heap[w.heap.size]? = some (planB ⟨fr, ta, tn, tc, sd, ck, aa, an, ac, sa, sn, sc, bu⟩) ∧ RowOk wr base w.heap.size 1 ta tn ∧ RowOk wr base w.heap.size 2 aa an ∧ RowOk wr base w.heap.size 4 sa sn ∧ Wrote base ta tn aa an sa sn w wr) (fun _ i _ => sn - (intOf i).toNat)
          case atStart => exact ⟨0, Nat.zero_le _, rfl, HX2.out, R12.out, R22.out, R32.out, HB2.out⟩
          case round =>
            obtain ⟨k, hk, rfl, hx, r1, r2, r3, hb⟩ := hrel
            have HX3 := Lib.hid hx
            have R13 := Lib.hid r1
            have R23 := Lib.hid r2
            have R33 := Lib.hid r3
            have HB3 := Lib.hid hb
            clear hx r1 r2 r3 hb
            by_cases hk1 : k < sn
            · rcases R33.out with h0 | ⟨g, cur, t, h9, g1, g2, g3, g4⟩
              · exact absurd hk1 (by omega)
              · subst h9
                have n1 : (k : Int) < sn := by omega
                have y0 := heap_cell HX3.out (j := 5) rfl
                obtain ⟨cv, hcv⟩ := cell_ex g3 (show k * 4 + 2 < cur.size by omega)
                have hfz := heap_frozen g3 (k * 4 + 2)
                have hne : g ≠ w.heap.size := by omega
                have G1 := Lib.hid g1
                have HNE := Lib.hid hne
                clear g1 g2 g3 g4 hne
                go_wp2_with fail
                go_roundw
                case rel => exact ⟨k + 1, by omega, by go_num, (Below.heap_setCell _ _ _ _ (by simpa using Ne.symm HNE.out)).trans HX3.out, R13.out.set _ _ _, R23.out.set _ _ _, R33.out.set _ _ _, HB3.out.set G1.out (.inr (.inr ⟨rfl, by omega⟩)) _ _⟩
                case measure => simp [intOf]; omega
            · obtain rfl : sn = k := by omega
              go_wp2_with fail
              go_end0
              exact ⟨⟨_, rfl⟩, HB3.out⟩

end Go.Proofs.Ytknpdjbokgenpaa
