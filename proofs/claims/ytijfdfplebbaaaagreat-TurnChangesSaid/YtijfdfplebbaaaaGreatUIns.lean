/-
  The contract of slices.Insert at notes, of one note.
-/
import Derived.Test.YtijfdfplebbaaaaGreatUInsA
import Derived.Lib.AppendZerosOnto
import Derived.Lib.Overlaps
import Derived.Deep.RegionLaw
namespace Go.Proofs.YtijfdfplebbaaaaGreat
open Go.RowKit

set_option maxHeartbeats 4000000 in
set_option maxRecDepth 100000 in
theorem insert_grow (g len cap : Nat) (F X : Nat → Value) (hF1 : One F) (hX1 : One X) (base k V vc : Nat) (hl : len ≤ 40) (hk : k < len) (hroom : cap < len + 1) (w : World) (x : NoteX) (_hV : w.heap[V]? = some (tnoteB x)) (hX : ValsAt w (some ⟨V, 0, none⟩) (1 * 7) X) (hbase : base ≤ w.heap.size) (h : OwnVals w base 34 7 (some ⟨g, 0, none⟩) len cap F) :
    Calls Tryz.prog 21 #[.slice (some ⟨g, 0, none⟩) len cap, .int .i64 k, .slice (some ⟨V, 0, none⟩) 1 vc] w fun e w' =>
      ∃ a' cap', e = .returned (.slice a' (len + 1) cap') ∧ OwnVals w' base 34 7 a' (len + 1) cap' (Pure.insV F k X) ∧ Below base w w' ∧ Alone (some ⟨g, 0, none⟩) w w' := by
  have hN := h.nums
  have hlc := h.le_cap
  obtain rfl : cap = len := by omega
  have hgl := (h.lt _ rfl).2
  simp only at hgl
  clear h
  obtain ⟨i0, hi, hz0, hz1, hz2⟩ := infoTNote
  have hi3 : (Tryz.prog.info? 34).map (·.size) = some 7 := by kernel_rfl
  have hkk : (cap : Int) + 1 - (k : Int) = ((cap + 1 - k : Nat) : Int) := by omega
  have hik : k + (cap + 1 - k) = cap + 1 := by omega
  have hold : (Builtin.firstCells i0.size k (.slice (some ⟨g, 0, none⟩) k cap)).run Tryz.prog w.drew = .ok (valsCells (k * 7) F).toArray w.drew := by
    rw [hz1]
    exact run_firstCells_some (w := w.drew) 7 k ⟨g, 0, none⟩ k cap (valsCells (k * 7) F) (valsCells_length _ _) (fun j v hj => by
      obtain ⟨h1, rfl⟩ := valsCells_at hj
      rw [Go.WideShapes.add_plain]
      exact hN.at (by omega))
  have hrz : ∀ ty, (Builtin.append_ #[28, 3] ty #[.slice (some ⟨g, 0, none⟩) k cap, .int .i64 ((cap : Int) + 1 - (k : Int))]).run Tryz.prog w =
      .ok (.slice (some ⟨w.heap.size, 0, none⟩) (cap + 1) (grownCap w (cap + 1) cap 34)) (w.drew.alloc (.cells ((valsCells (k * 7) F).toArray ++ Builtin.zeroCells (Value.agg #[.int .i64 0, .int .i64 0, .int .i64 0, .bool false, .int .i64 0, .int .i64 0, .bool false]).cells (cap + 1 - k) ++ Builtin.zeroCells (Value.agg #[.int .i64 0, .int .i64 0, .int .i64 0, .bool false, .int .i64 0, .int .i64 0, .bool false]).cells (grownCap w (cap + 1) cap 34 - (cap + 1))) 34)) := fun ty => by
    have h := Lib.run_append_grow_zeros w 28 3 ty 34 i0 _ .i64 .i64 Tryz.underlying28 Tryz.underlying3 hi hz0 (some ⟨g, 0, none⟩) k cap (valsCells (k * 7) F) hold (cap + 1 - k) (by omega) (by omega) (by omega) (by omega) (by rw [hz2]; omega) (by rw [hz2, hik]; exact growslice_fits hroom (by omega))
    rw [hik] at h
    rw [hkk]
    exact h
  have hGn : cap + 1 ≤ grownCap w (cap + 1) cap 34 := grownCap_ge w _ _ _
  have hG63 : grownCap w (cap + 1) cap 34 ≤ maxLen := grownCap_le_maxLen w (cap + 1) cap 34 (by unfold maxLen; omega)
  obtain ⟨G, hG⟩ : ∃ G, grownCap w (cap + 1) cap 34 = G := ⟨_, rfl⟩
  rw [hG] at hrz hGn hG63
  obtain ⟨ROW, hROW⟩ : ∃ ROW : Array Value, (valsCells (k * 7) F).toArray ++ Builtin.zeroCells (Value.agg #[.int .i64 0, .int .i64 0, .int .i64 0, .bool false, .int .i64 0, .int .i64 0, .bool false]).cells (cap + 1 - k) ++ Builtin.zeroCells (Value.agg #[.int .i64 0, .int .i64 0, .int .i64 0, .bool false, .int .i64 0, .int .i64 0, .bool false]).cells (G - (cap + 1)) = ROW := ⟨_, rfl⟩
  rw [hROW] at hrz
  have hRs : ROW.size = G * 7 := by
    rw [← hROW]
    simp [size_zeroCells, valsCells_length, Value.cells]
    omega
  have hR0 : ∀ q, q < k * 7 → ROW[q]? = some (F q) := fun q hq => by
    rw [← hROW, Array.append_assoc, Array.getElem?_append_left (by simp [valsCells_length]; exact hq)]
    have := valsCells_get (F := F) hq
    simpa using this
  obtain ⟨W1, hW1⟩ : ∃ W1, w.drew.alloc (.cells ROW 34) = W1 := ⟨_, rfl⟩
  have c0 : W1.heap[w.heap.size]? = some (.cells ROW 34) := by rw [← hW1]; exact heap_top w.drew _ rfl
  have hb1 : Below w.heap.size w W1 := by rw [← hW1]; exact (Below.refl _ _).drew.alloc (Nat.le_refl _) _
  rw [hW1] at hrz
  clear hG hROW hold hW1
  have hcpA : ∀ ty dc, (Builtin.copy_ #[28, 28] ty #[.slice (some ⟨w.heap.size, k * 7, none⟩) (cap + 1 - k) dc, .slice (some ⟨V, 0, none⟩) 1 vc]).run Tryz.prog W1 = .ok (goInt ((1 : Nat) : Int)) (W1.setCells w.heap.size (k * 7) (valsCells (1 * 7) X)) := fun ty dc =>
    run_copy_rows W1 _ _ ty 34 7 w.heap.size (k * 7) (cap + 1 - k) dc ⟨V, 0, none⟩ 1 vc 1 _ Tryz.underlying28 hi3 (by simp only [Nat.min_def]; split <;> omega) (valsCells_length _ _)
      (fun j v hj => by
        obtain ⟨h1, rfl⟩ := valsCells_at hj
        rw [Go.WideShapes.add_plain]
        exact (hX.below hb1).at h1)
      (fun j hj => by rw [valsCells_length] at hj; obtain ⟨v, hv⟩ := cell_ex c0 (show k * 7 + j < ROW.size by omega); rw [hv]; rfl) (fun j _ => heap_frozen c0 _)
      (fun v hv => by
        obtain ⟨j, hj⟩ := List.getElem?_of_mem hv
        obtain ⟨_, rfl⟩ := valsCells_at hj
        first | exact hX1 _ | exact hF1 _)
  obtain ⟨W2, hW2⟩ : ∃ W2, W1.setCells w.heap.size (k * 7) (valsCells (1 * 7) X) = W2 := ⟨_, rfl⟩
  obtain ⟨cur1, e1, e2, e3, e4⟩ := heap_setCells_all (t := 34) w.heap.size (valsCells (1 * 7) X) (k * 7) W1 ROW c0 (by rw [valsCells_length]; omega)
  have hb2 : Below w.heap.size w W2 := by rw [← hW2]; exact below_setCells _ (Nat.le_refl _) _ _ _ hb1
  rw [hW2] at hcpA e1
  clear hW2
  have hcpB : ∀ ty dc sc, (Builtin.copy_ #[28, 28] ty #[.slice (some ⟨w.heap.size, (k + 1) * 7, none⟩) (cap - k) dc, .slice (some ⟨g, k * 7, none⟩) (cap - k) sc]).run Tryz.prog W2.drew = .ok (goInt ((cap - k : Nat) : Int)) (W2.drew.setCells w.heap.size ((k + 1) * 7) (valsCells ((cap - k) * 7) (fun q => F (k * 7 + q)))) := fun ty dc sc =>
    run_copy_rows W2.drew _ _ ty 34 7 w.heap.size ((k + 1) * 7) (cap - k) dc ⟨g, k * 7, none⟩ (cap - k) sc (cap - k) _ Tryz.underlying28 hi3 (by simp only [Nat.min_def]; split <;> omega) (valsCells_length _ _)
      (fun j v hj => by
        obtain ⟨h1, rfl⟩ := valsCells_at hj
        rw [Go.WideShapes.add_plain]
        have h2 := (hN.below hb2).at (show k * 7 + j < cap * 7 by omega)
        rw [Nat.zero_add] at h2
        exact h2)
      (fun j hj => by rw [valsCells_length] at hj; obtain ⟨v, hv⟩ := cell_ex (w := W2.drew) e1 (show (k + 1) * 7 + j < cur1.size by omega); rw [hv]; rfl) (fun j _ => heap_frozen (W := W2.drew) e1 _)
      (fun v hv => by
        obtain ⟨j, hj⟩ := List.getElem?_of_mem hv
        obtain ⟨_, rfl⟩ := valsCells_at hj
        first | exact hX1 _ | exact hF1 _)
  obtain ⟨W3, hW3⟩ : ∃ W3, W2.drew.setCells w.heap.size ((k + 1) * 7) (valsCells ((cap - k) * 7) (fun q => F (k * 7 + q))) = W3 := ⟨_, rfl⟩
  obtain ⟨cur2, d1, d2, d3, d4⟩ := heap_setCells_all (t := 34) w.heap.size (valsCells ((cap - k) * 7) (fun q => F (k * 7 + q))) ((k + 1) * 7) W2.drew cur1 e1 (by rw [valsCells_length]; omega)
  have hb3 : Below w.heap.size w W3 := by rw [← hW3]; exact below_setCells _ (Nat.le_refl _) _ _ _ hb2.drew
  have HB3 : Hid (Below base w W3) := Lib.hid (hb3.mono hbase)
  have HA3 : Hid (Alone (some ⟨g, 0, none⟩) w W3) := Lib.hid (fun i hi _ => hb3.block i hi)
  rw [hW3] at hcpB d1
  have HO3 : Hid (OwnVals W3 base 34 7 (some ⟨w.heap.size, 0, none⟩) (cap + 1) G (Pure.insV F k X)) := Lib.hid ⟨valsCells_length _ _, .inr ⟨w.heap.size, G, cur2, rfl, hbase, d1, hGn, hG63, by rw [d2, e2, hRs], by
    apply List.ext_getElem?
    intro q
    by_cases hq : q < (cap + 1) * 7
    · rw [List.getElem?_take_of_lt hq, valsCells_get hq, Array.getElem?_toList]
      simp only [Pure.insV]
      rw [valsCells_length] at d3 d4 e3 e4
      by_cases h1 : q < k * 7
      · rw [if_pos h1, d3 q (.inl (by omega)), e3 q (.inl h1), hR0 q h1]
      · rw [if_neg h1]
        by_cases h2 : q < k * 7 + 7
        · rw [if_pos h2, d3 q (.inl (by omega))]
          have h3 := e4 (q - k * 7) (by omega)
          rw [show k * 7 + (q - k * 7) = q by omega, valsCells_get (by omega)] at h3
          exact h3
        · rw [if_neg h2]
          have h3 := d4 (q - (k + 1) * 7) (by omega)
          rw [show (k + 1) * 7 + (q - (k + 1) * 7) = q by omega, valsCells_get (by omega), show k * 7 + (q - (k + 1) * 7) = q - 7 by omega] at h3
          exact h3
    · rw [List.getElem?_eq_none (by simp; omega), List.getElem?_eq_none (by rw [valsCells_length]; omega)]⟩⟩
  have hGi : ¬ (G = k) := by omega
  have hGim : ¬ (G = k + 1) := by omega
  have hci : ¬ (cap = k) := by omega
  have hz3 : (cap : Int) < (cap : Int) + 1 := by omega
  have hG64 : G ≤ 9223372036854775807 := by unfold maxLen at hG63; omega
  have hw1 : IntKind.i64.wrap ((k : Int) + 1) = (k : Int) + 1 := by rw [IntKind.wrap_i64]; omega
  have hn1 : (0 : Int) ≤ (k : Int) + 1 := by omega
  have hin : k ≤ cap := by omega
  have htn : ((k : Int) + 1).toNat = k + 1 := by omega
  have hn3 : (k : Int) ≤ (cap : Int) := by omega
  clear hkk hik hRs hR0 c0 hb1 e1 e2 e3 e4 d1 d2 d3 d4 hb2 hb3 hW3 hN hX hgl hi hz0 hz1 hz2 hi3 hG63
  go_enter Tryz.func21, Tryz.ntmps21
  go_wp2_with (first
    | (at_builtin; refine Lib.wpList_append_run _ rfl _ _ _ _ rfl _ _ rfl rfl _ _ (hrz _) ?_)
    | (at_builtin; refine wpList_copy_eq _ rfl _ _ 28 28 rfl _ _ rfl rfl (hcpA _ _) ?_))
  go_region_law (refine step_copy_eq rfl _ _ 28 28 rfl (.slice (some ⟨w.heap.size, (k + 1) * 7, none⟩) (cap - k) (G - (k + 1))) (.slice (some ⟨g, k * 7, none⟩) (cap - k) (cap - k)) (by simp [Act.eval, Act.put]) (by simp [Act.eval, Act.put]) (hcpB _ _ _) ?_)
  go_wp2_with fail
  go_ret
  exact ⟨_, _, rfl, HO3.out, HB3.out, HA3.out⟩

/-- **Insert** of one note. -/
theorem insert_any (a : Option Addr) (len cap : Nat) (F X : Nat → Value) (hF1 : One F) (hX1 : One X) (base k V vc : Nat) (hl : len ≤ 40) (hk : k ≤ len) (w : World) (x : NoteX) (hV : w.heap[V]? = some (tnoteB x)) (hX : ValsAt w (some ⟨V, 0, none⟩) (1 * 7) X) (hVa : ∀ x, a = some x → V ≠ x.block) (hbase : base ≤ w.heap.size) (h : OwnVals w base 34 7 a len cap F) :
    Calls Tryz.prog 21 #[.slice a len cap, .int .i64 k, .slice (some ⟨V, 0, none⟩) 1 vc] w fun e w' =>
      ∃ a' cap', e = .returned (.slice a' (len + 1) cap') ∧ OwnVals w' base 34 7 a' (len + 1) cap' (Pure.insV F k X) ∧ Below base w w' ∧ Alone a w w' := by
  by_cases h1 : k = len
  · subst h1
    exact insert_end a k cap F X hF1 hX1 base V vc hl w hX hbase h
  · obtain ⟨rfl, rfl, _⟩ | ⟨g, rfl, _⟩ := h.own_block
    · omega
    · by_cases h2 : cap < len + 1
      · exact insert_grow g len cap F X hF1 hX1 base k V vc hl (by omega) h2 w x hV hX hbase h
      · exact insert_room g len cap F X hF1 hX1 base k V vc hl (by omega) (by omega) w x hV hX (hVa _ rfl) hbase h

end Go.Proofs.YtijfdfplebbaaaaGreat
