/-
  The contract of slices.Insert at notes, of one note.
-/
import Derived.Test.YtijfdfplebbaaaaGreatUSearch
import Derived.Lib.AppendZerosOnto
import Derived.Lib.Overlaps
import Derived.Deep.RegionLaw
namespace Go.Proofs.YtijfdfplebbaaaaGreat
open Go.RowKit

theorem run_copy_rows {P : Program} (w : World) (dT sT ty elem : TypeId) (k b o dLen dCap : Nat) (a : Addr) (sLen sCap n : Nat) (cs : List Value)
    (hu : P.underlying dT = some (.slice elem)) (hs : (P.info? elem).map (·.size) = some k) (hn : n = Nat.min sLen dLen) (hl : cs.length = n * k)
    (hsrc : ∀ j v, cs[j]? = some v → w.cell? (a.add j) = some v) (hc : ∀ j, j < cs.length → (w.cell? ⟨b, o + j, none⟩).isSome = true) (hf : ∀ j, j < cs.length → w.frozen? ⟨b, o + j, none⟩ = false) (h1 : ∀ v ∈ cs, v.oneCell' = true) :
    (Builtin.copy_ #[dT, sT] ty #[.slice (some ⟨b, o, none⟩) dLen dCap, .slice (some a) sLen sCap]).run P w = .ok (goInt n) (w.setCells b o cs) := by
  have hld := run_loadCells_list (P := P) w a cs hsrc
  have hst := run_storeCells_cells (P := P) b o cs 0 w (by simpa using hc) (by simpa using hf) h1
  cases hq : P.info? elem with
  | none => simp [hq] at hs
  | some i =>
    have hi : i.size = k := by simpa [hq] using hs
    rw [hl] at hld
    simp [Builtin.copy_, run_underlying hu, Builtin.lenOf, Builtin.firstCells, sizeOf, typeInfo, hq, hi, ← hn, hld, hst]

/-- THE OPERATION 'copy(d, s)' for the walk, where its run is known by an equation. -/
theorem wpList_copy_eq {P : Program} (w : World) {ops : Array Oper} {rest : List Oper} {o : Oper} {a : Act} {Q : Exit → Act → World → Prop} (hgd : o.guard = none) (d s : Operand) (t t' : TypeId)
    (ho : o.op = .call { callee := .builtin .copy, args := #[d, s], argTypes := #[t, t'] }) (v u : Value) (hd : a.eval d = v) (hs : a.eval s = u) {v' : Value} {w' : World}
    (hr : (Builtin.copy_ #[t, t'] o.type #[v, u]).run P w = .ok v' w') (h : wpList P ops Q rest (a.put o.dst v') w') : wpList P ops Q (o :: rest) a w :=
  wpList_plain hgd fun K hK => by
    unfold Oper.wp execOp
    simp only [ho, resolve, invoke, builtin, Sem.run_bind, Sem.run_pure, Result.andThen_ok, List.map_toArray, List.map_cons, List.map_nil, hd, hs, hr]
    exact hK _ _ h
theorem step_copy_eq {P : Program} {ops : Array Oper} {o : Oper} {a : Act} {w : World} {K : Act → World → Prop} {Q : Exit → Act → World → Prop} {E : Prop}
    (hg : o.guard = none) (d x : Operand) (dT sT : TypeId) (hop : o.op = Op.call { callee := Callee.builtin Builtin.copy, args := #[d, x], argTypes := #[dT, sT] })
    (v u : Value) (hd : a.eval d = v) (hx : a.eval x = u) {v' : Value} {w' : World} (hr : (Builtin.copy_ #[dT, sT] o.type #[v, u]).run P w = .ok v' w') (hK : K (a.put o.dst v') w') :
    if Region.wanted o (yielded ops a.tmps) = true then Oper.wp P o a w K Q else E := by
  have hw : Region.wanted o (yielded ops a.tmps) = true := by simp [Region.wanted, hg]
  rw [if_pos hw]
  unfold Oper.wp
  simp [execOp, hop, resolve, invoke, builtin, hd, hx, hr, Result.andThen]
  exact hK

namespace Pure
/-- The numbers with a row more, at place k. -/
def insV (F : Nat → Value) (k : Nat) (X : Nat → Value) : Nat → Value := fun q => if q < k * 7 then F q else if q < k * 7 + 7 then X (q - k * 7) else F (q - 7)
end Pure
/-- What setCells leaves in its block. -/
theorem heap_setCells_all {t : TypeId} (g : Nat) : ∀ (vs : List Value) (o : Nat) (w : World) (cur : Array Value), w.heap[g]? = some (.cells cur t) → o + vs.length ≤ cur.size →
    ∃ cur', (w.setCells g o vs).heap[g]? = some (.cells cur' t) ∧ cur'.size = cur.size ∧ (∀ i, i < o ∨ o + vs.length ≤ i → cur'[i]? = cur[i]?) ∧ ∀ j, j < vs.length → cur'[o + j]? = vs[j]?
  | [], _, _, cur, h, _ => ⟨cur, h, rfl, fun _ _ => rfl, fun j hj => absurd hj (Nat.not_lt_zero _)⟩
  | v :: r, o, w, cur, h, hs => by
    simp only [List.length_cons] at hs
    obtain ⟨cur', h1, h2, h3, h4⟩ := heap_setCells_all g r (o + 1) (w.setCell ⟨g, o, none⟩ v) (cur.setIfInBounds o v) (heap_set h o v) (by simp; omega)
    refine ⟨cur', h1, by rw [h2]; simp, fun i hi => ?_, fun j hj => ?_⟩
    · rw [h3 i (by simp only [List.length_cons] at hi; omega), Array.getElem?_setIfInBounds_ne (by simp only [List.length_cons] at hi; omega)]
    · cases j with
      | zero => rw [h3 (o + 0) (.inl (by omega)), Nat.add_zero, Array.getElem?_setIfInBounds_self_of_lt (by omega)]; rfl
      | succ j =>
        have := h4 j (by simpa using hj)
        rw [show o + (j + 1) = o + 1 + j by omega, this]
        simp
theorem alone_setCells {g : Nat} (vs : List Value) (o : Nat) (w : World) (i : Nat) (hi : i < w.heap.size) (hne : i ≠ g) : (w.setCells g o vs).heap[i]? = w.heap[i]? := World.heap_setCells_other w g o vs hi hne

set_option maxHeartbeats 4000000 in
set_option maxRecDepth 100000 in
theorem insert_end (a : Option Addr) (len cap : Nat) (F X : Nat → Value) (hF1 : One F) (hX1 : One X) (base V vc : Nat) (hl : len ≤ 40) (w : World) (hV : ValsAt w (some ⟨V, 0, none⟩) (1 * 7) X) (hbase : base ≤ w.heap.size) (h : OwnVals w base 34 7 a len cap F) :
    Calls Tryz.prog 21 #[.slice a len cap, .int .i64 len, .slice (some ⟨V, 0, none⟩) 1 vc] w fun e w' =>
      ∃ a' cap', e = .returned (.slice a' (len + 1) cap') ∧ OwnVals w' base 34 7 a' (len + 1) cap' (Pure.insV F len X) ∧ Below base w w' ∧ Alone a w w' := by
  obtain ⟨i0, hi, hz0, hz1, hz2⟩ := infoTNote
  obtain ⟨a', cap', w2, hr, ho, hal, hb, _⟩ := app_vals w base 34 28 28 7 56 i0 _ Tryz.underlying28 hi hz0 hz1 hz2 rfl (by decide) (by decide) h (some ⟨V, 0, none⟩) 1 vc X hX1 hV (fun e => by cases e) (by omega) (by omega) hbase
  have HR := Lib.hid hr
  have HO : Hid (OwnVals w2 base 34 7 a' (len + 1) cap' (Pure.insV F len X)) := Lib.hid (ho.congr (fun q hq => by
    simp only [joinV, Pure.insV]
    by_cases h1 : q < len * 7
    · rw [if_pos h1, if_pos h1]
    · rw [if_neg h1, if_neg h1, if_pos (by omega)]))
  have HB := Lib.hid hb
  have HA := Lib.hid hal
  have HC := Lib.hid h.le_cap
  have hn : h.own_block = h.own_block := rfl
  rcases h.own_block with ⟨rfl, rfl, rfl⟩ | ⟨g, rfl, _⟩
  all_goals
    clear hn h hr ho hb hal hV hi hz0 hz1 hz2
    go_enter Tryz.func21, Tryz.ntmps21
    go_wp2_with (at_builtin; refine Lib.wpList_append_run _ rfl _ _ _ _ rfl _ _ rfl rfl _ _ HR.out ?_)
    all_goals
      go_ret
      exact ⟨a', cap', rfl, HO.out, HB.out, HA.out⟩

set_option maxHeartbeats 4000000 in
set_option maxRecDepth 100000 in
theorem insert_room (g len cap : Nat) (F X : Nat → Value) (hF1 : One F) (hX1 : One X) (base k V vc : Nat) (hl : len ≤ 40) (hk : k < len) (hroom : len + 1 ≤ cap) (w : World) (x : NoteX) (hV : w.heap[V]? = some (tnoteB x)) (hX : ValsAt w (some ⟨V, 0, none⟩) (1 * 7) X) (hVg : V ≠ g) (_hbase : base ≤ w.heap.size) (h : OwnVals w base 34 7 (some ⟨g, 0, none⟩) len cap F) :
    Calls Tryz.prog 21 #[.slice (some ⟨g, 0, none⟩) len cap, .int .i64 k, .slice (some ⟨V, 0, none⟩) 1 vc] w fun e w' =>
      ∃ a' cap', e = .returned (.slice a' (len + 1) cap') ∧ OwnVals w' base 34 7 a' (len + 1) cap' (Pure.insV F k X) ∧ Below base w w' ∧ Alone (some ⟨g, 0, none⟩) w w' := by
  obtain ⟨hlen, ⟨h0, _⟩ | ⟨g', cap', cur, hs, hg, hcur, hlc, hcm, hsz, htk⟩⟩ := h
  · cases h0
  simp only [Value.slice.injEq, Option.some.injEq, Addr.mk.injEq] at hs
  obtain ⟨⟨rfl, _, _⟩, _, rfl⟩ := hs
  have hov : ∀ o lb cb, (callFunc 41 #[.slice (some ⟨V, 0, none⟩) 1 vc, .slice (some ⟨g, o, none⟩) lb cb]).run Tryz.prog w = .ok (.value (.bool false)) w := fun o lb cb => by
    rw [run_callFunc_extern Tryz.func41 (by kernel_rfl) (by kernel_rfl) (by kernel_rfl) (e := Extern.SlicesOverlaps.overlaps #[28, 28] #[4]) (by kernel_rfl),
      Lib.run_overlaps_apart w 28 4 34 Tryz.underlying28 7 (fun w => by kernel_rfl) ⟨V, 0, none⟩ ⟨g, o, none⟩ 1 vc lb cb hVg 34 34 7 cur.size (by simp [World.shape?, hV]) (by simp [World.shape?, hcur]) (by omega) (heap_frozen hV 0) (heap_frozen hV 7)]
    rfl
  have hi3 : (Tryz.prog.info? 34).map (·.size) = some 7 := by kernel_rfl
  have hc0 : ∀ q, q < len * 7 → cur[q]? = some (F q) := fun q hq => by
    have h1 := valsCells_get (F := F) hq
    rw [← htk, List.getElem?_take_of_lt (by omega)] at h1
    simpa using h1
  have hcell : ∀ q, q < cur.size → (w.drew.cell? ⟨g, q, none⟩).isSome = true := fun q hq => by
    obtain ⟨v, hv⟩ := cell_ex (w := w.drew) hcur hq
    rw [hv]; rfl
  have hfz : ∀ q, w.drew.frozen? ⟨g, q, none⟩ = false := fun q => heap_frozen (W := w.drew) hcur q
  have hcp1 : ∀ ty dc sc, (Builtin.copy_ #[28, 28] ty #[.slice (some ⟨g, (k + 1) * 7, none⟩) (len - k) dc, .slice (some ⟨g, k * 7, none⟩) (len + 1 - k) sc]).run Tryz.prog w.drew = .ok (goInt ((len - k : Nat) : Int)) (w.drew.setCells g ((k + 1) * 7) (valsCells ((len - k) * 7) (fun q => F (k * 7 + q)))) := fun ty dc sc =>
    run_copy_rows w.drew _ _ ty 34 7 g ((k + 1) * 7) (len - k) dc ⟨g, k * 7, none⟩ (len + 1 - k) sc (len - k) _ Tryz.underlying28 hi3 (by simp only [Nat.min_def]; split <;> omega) (valsCells_length _ _)
      (fun j v hj => by
        obtain ⟨h1, rfl⟩ := valsCells_at hj
        rw [Go.WideShapes.add_plain]
        exact heap_cell (V := w.drew) hcur (hc0 _ (by omega)))
      (fun j hj => by rw [valsCells_length] at hj; exact hcell _ (by omega)) (fun j _ => hfz _)
      (fun v hv => by
        obtain ⟨j, hj⟩ := List.getElem?_of_mem hv
        obtain ⟨_, rfl⟩ := valsCells_at hj
        first | exact hX1 _ | exact hF1 _)
  obtain ⟨W1, hW1⟩ : ∃ W1, w.drew.setCells g ((k + 1) * 7) (valsCells ((len - k) * 7) (fun q => F (k * 7 + q))) = W1 := ⟨_, rfl⟩
  obtain ⟨cur1, e1, e2, e3, e4⟩ := heap_setCells_all (t := 34) g (valsCells ((len - k) * 7) (fun q => F (k * 7 + q))) ((k + 1) * 7) w.drew cur hcur (by rw [valsCells_length]; omega)
  have hbd : Below base w w.drew := (Below.refl _ _).drew
  have hb1 : Below base w W1 := by rw [← hW1]; exact below_setCells g hg _ _ _ hbd
  have ha1 : ∀ i, i < w.heap.size → i ≠ g → W1.heap[i]? = w.heap[i]? := fun i hi hne => by rw [← hW1]; exact alone_setCells _ _ w.drew i hi hne
  have hs1 : w.heap.size ≤ W1.heap.size := hb1.size
  rw [hW1] at hcp1 e1
  clear hW1
  have hcp2 : ∀ ty dc, (Builtin.copy_ #[28, 28] ty #[.slice (some ⟨g, k * 7, none⟩) (len + 1 - k) dc, .slice (some ⟨V, 0, none⟩) 1 vc]).run Tryz.prog W1 = .ok (goInt ((1 : Nat) : Int)) (W1.setCells g (k * 7) (valsCells (1 * 7) X)) := fun ty dc =>
    run_copy_rows W1 _ _ ty 34 7 g (k * 7) (len + 1 - k) dc ⟨V, 0, none⟩ 1 vc 1 _ Tryz.underlying28 hi3 (by simp only [Nat.min_def]; split <;> omega) (valsCells_length _ _)
      (fun j v hj => by
        obtain ⟨h1, rfl⟩ := valsCells_at hj
        rw [Go.WideShapes.add_plain]
        have h2 := hX.at h1
        unfold World.cell? at h2 ⊢
        rw [ha1 V (Array.getElem?_eq_some_iff.1 hV).1 hVg]
        exact h2)
      (fun j hj => by rw [valsCells_length] at hj; obtain ⟨v, hv⟩ := cell_ex e1 (show k * 7 + j < cur1.size by omega); rw [hv]; rfl) (fun j _ => heap_frozen e1 _)
      (fun v hv => by
        obtain ⟨j, hj⟩ := List.getElem?_of_mem hv
        obtain ⟨_, rfl⟩ := valsCells_at hj
        first | exact hX1 _ | exact hF1 _)
  obtain ⟨W2, hW2⟩ : ∃ W2, W1.setCells g (k * 7) (valsCells (1 * 7) X) = W2 := ⟨_, rfl⟩
  obtain ⟨cur2, d1, d2, d3, d4⟩ := heap_setCells_all (t := 34) g (valsCells (1 * 7) X) (k * 7) W1 cur1 e1 (by rw [valsCells_length]; omega)
  have HB2 : Hid (Below base w W2) := Lib.hid (by rw [← hW2]; exact below_setCells g hg _ _ _ hb1)
  have HA2 : Hid (Alone (some ⟨g, 0, none⟩) w W2) := Lib.hid (fun i hi hne => by rw [← hW2]; exact (alone_setCells _ _ W1 i (by omega) (hne _ rfl)).trans (ha1 i hi (hne _ rfl)))
  rw [hW2] at hcp2 d1
  have HO2 : Hid (OwnVals W2 base 34 7 (some ⟨g, 0, none⟩) (len + 1) cap (Pure.insV F k X)) := Lib.hid ⟨valsCells_length _ _, .inr ⟨g, cap, cur2, rfl, hg, d1, hroom, hcm, by rw [d2, e2, hsz], by
    apply List.ext_getElem?
    intro q
    by_cases hq : q < (len + 1) * 7
    · rw [List.getElem?_take_of_lt hq, valsCells_get hq, Array.getElem?_toList]
      simp only [Pure.insV]
      rw [valsCells_length] at d3 d4 e3 e4
      by_cases h1 : q < k * 7
      · rw [if_pos h1, d3 q (.inl h1), e3 q (.inl (by omega)), hc0 q (by omega)]
      · rw [if_neg h1]
        by_cases h2 : q < k * 7 + 7
        · rw [if_pos h2]
          have h3 := d4 (q - k * 7) (by omega)
          rw [show k * 7 + (q - k * 7) = q by omega, valsCells_get (by omega)] at h3
          exact h3
        · rw [if_neg h2, d3 q (.inr (by omega))]
          have h3 := e4 (q - (k + 1) * 7) (by omega)
          rw [show (k + 1) * 7 + (q - (k + 1) * 7) = q by omega, valsCells_get (by omega), show k * 7 + (q - (k + 1) * 7) = q - 7 by omega] at h3
          exact h3
    · rw [List.getElem?_eq_none (by simp; omega), List.getElem?_eq_none (by rw [valsCells_length]; omega)]⟩⟩
  have hw1 : IntKind.i64.wrap ((k : Int) + 1) = (k : Int) + 1 := by rw [IntKind.wrap_i64]; omega
  have hb1 : (0 : Int) ≤ (k : Int) + 1 := by omega
  have hin : k ≤ len := by omega
  have htn : ((k : Int) + 1).toNat = k + 1 := by omega
  have hb2 : ¬ (cap = k + 1) := by omega
  have hb3 : (k : Int) ≤ (len : Int) + 1 := by omega
  have hb4 : ¬ (cap = k) := by omega
  clear hlen htk hc0 hcell hfz e1 e2 e3 e4 d1 d2 d3 d4 hW2 hbd ha1 hs1 hV hX hVg hcur hi3 hg hsz hcm
  go_enter Tryz.func21, Tryz.ntmps21
  go_wp2_with (simp only [hov])
  go_region_law (refine step_copy_eq rfl _ _ 28 28 rfl _ _ (by simp [Act.eval, Act.put]) (by simp [Act.eval, Act.put]) (hcp1 _ _ _) ?_)
  go_wp2_with (at_builtin; refine wpList_copy_eq _ rfl _ _ 28 28 rfl _ _ rfl rfl (hcp2 _ _) ?_)
  go_ret
  exact ⟨_, _, rfl, HO2.out, HB2.out, HA2.out⟩

end Go.Proofs.YtijfdfplebbaaaaGreat
