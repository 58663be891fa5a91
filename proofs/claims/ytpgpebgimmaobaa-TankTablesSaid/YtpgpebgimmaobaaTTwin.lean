/-
  The contracts of TwinTank, SameInts, and of the specification's own Check.
-/
import Derived.Test.YtpgpebgimmaobaaTRange
import Derived.Deep.AppendLies
namespace Go.Proofs.Ytpgpebgimmaobaa
open Go.RowKit

theorem infoInt : ∃ i, Try.prog.info? 3 = some i ∧ i.zero = some (.int .i64 0) ∧ i.size = 1 ∧ i.bytes = 8 := by
  have h : (Try.prog.info? 3).map (fun i => (i.zero, i.size, i.bytes)) = some (some (.int .i64 0), 1, 8) := by kernel_rfl
  obtain ⟨i, hi, h2⟩ := Option.map_eq_some_iff.1 h
  simp only [Prod.mk.injEq] at h2
  exact ⟨i, hi, h2.1, h2.2.1, h2.2.2⟩
/-- The cells of some numbers. -/
def numsCells (len : Nat) (F : Nat → Int) : List Value := (List.range len).map fun j => .int .i64 (F j)
theorem numsCells_length (len : Nat) (F : Nat → Int) : (numsCells len F).length = len := by simp [numsCells]
theorem numsCells_at {len : Nat} {F : Nat → Int} {j : Nat} {v : Value} (h : (numsCells len F)[j]? = some v) : j < len ∧ v = .int .i64 (F j) := by
  unfold numsCells at h
  rw [List.getElem?_map] at h
  by_cases hj : j < len
  · rw [List.getElem?_range hj] at h
    simp at h
    exact ⟨hj, h.symm⟩
  · rw [List.getElem?_eq_none (by simpa using hj)] at h
    cases h
theorem numsCells_get {len : Nat} {F : Nat → Int} {j : Nat} (h : j < len) : (numsCells len F)[j]? = some (.int .i64 (F j)) := by
  unfold numsCells
  rw [List.getElem?_map, List.getElem?_range h]
  rfl
theorem numsCells_hold {w : World} {b off len : Nat} {F : Nat → Int} (h : NumsAt w (some ⟨b, off, none⟩) len F) {j : Nat} {v : Value} (hj : (numsCells len F)[j]? = some v) : w.cell? ((⟨b, off, none⟩ : Addr).add j) = some v := by
  obtain ⟨h1, rfl⟩ := numsCells_at hj
  rw [Go.WideShapes.add_plain]
  exact h.at h1
theorem nums_of_row {w : World} {base : Nat} {t : TypeId} {a : Option Addr} {len cap : Nat} {F : Nat → Int} (h : w.ownsRow base t 1 (.slice a len cap) len (numsCells len F)) (h0 : 0 < len) : NumsAt w a len F := by
  obtain ⟨_, hn | ⟨g, cap', cur, he, _, hg, _, _, _, ht⟩⟩ := h
  · omega
  · simp only [Value.slice.injEq] at he
    obtain ⟨rfl, _, rfl⟩ := he
    refine fun j hj => ⟨g, 0, rfl, ?_⟩
    have h1 := numsCells_get (F := F) hj
    rw [← ht, List.getElem?_take_of_lt (by omega)] at h1
    unfold World.cell?
    simp only [hg]
    simpa using h1
theorem row_empty (w : World) (t : TypeId) {b base : Nat} (hb : b = w.heap.size) (hbase : base ≤ b) : (w.alloc (.cells #[] t)).ownsRow base t 1 (.slice (some ⟨b, 0, none⟩) 0 0) 0 [] := by
  subst hb
  refine ⟨rfl, .inr ⟨w.heap.size, 0, #[], rfl, hbase, heap_top _ _ rfl, ?_⟩⟩
  simp
theorem nums_set {w : World} {b off len : Nat} {F : Nat → Int} (h : NumsAt w (some ⟨b, off, none⟩) len F) {p : Addr} (hne : b ≠ p.block) (u : Value) : NumsAt (w.setCell p u) (some ⟨b, off, none⟩) len F := fun j hj =>
  ⟨b, off, rfl, (World.cell?_of_block (Below.heap_setCell _ _ _ _ hne)).trans (h.at hj)⟩
theorem row_base {w : World} {base size n : Nat} {t : TypeId} {g cap : Nat} {xs : List Value} (h : w.ownsRow base t size (.slice (some ⟨g, 0, none⟩) n cap) n xs) : base ≤ g := by
  obtain ⟨_, ⟨hn, _⟩ | ⟨g', cap', cur, he, hb, _⟩⟩ := h
  · cases hn
  · simp only [Value.slice.injEq, Option.some.injEq, Addr.mk.injEq] at he
    obtain ⟨⟨rfl, _⟩, _⟩ := he
    exact hb
/-- What a twin is. -/
def TwinOut (len : Nat) (F : Nat → Int) (lk ft : Int) (w : World) (e : Ending) (w' : World) : Prop :=
  ∃ a cap, e = .returned (tankV a len cap lk ft) ∧ NumsAt w' a len F ∧ Below w.heap.size w w'
set_option maxHeartbeats 4000000 in
set_option maxRecDepth 100000 in
theorem twin_any (a : Option Addr) (len cap : Nat) (F : Nat → Int) (lk ft : Int) (hl : len ≤ 40) (w : World) (h : NumsAt w a len F) :
    Calls Try.prog 5 #[tankV a len cap lk ft] w (TwinOut len F lk ft w) := by
  have HN := Lib.hid h
  clear h
  go_enter Try.func5, Try.ntmps5
  go_wp2_with fail
  obtain ⟨W1, hW1⟩ : ∃ W, ((w.alloc (tankB a len cap lk ft)).alloc (.cells #[.slice none 0 0, .int .i64 0, .int .i64 0] 24)) = W := ⟨_, rfl⟩
  have HB1 : Hid (Below w.heap.size w W1) := Lib.hid (by rw [← hW1]; exact (((Below.refl _ _).alloc (Nat.le_refl _) _).alloc (by simp <;> omega) _))
  have HX1 : Hid (W1.heap[w.heap.size]? = some (tankB a len cap lk ft) ∧ W1.heap[w.heap.size + 1]? = some (.cells #[.slice none 0 0, .int .i64 0, .int .i64 0] 24)) := Lib.hid (by rw [← hW1]; exact ⟨heap_up (heap_top _ _ rfl) _, heap_top _ _ (by simp)⟩)
  have HN1 : Hid (NumsAt W1 a len F) := Lib.hid (HN.out.below HB1.out)
  rw [hW1]
  clear hW1
  have HX2 : Hid (W1.drew.heap[w.heap.size]? = some (tankB a len cap lk ft) ∧ W1.drew.heap[w.heap.size + 1]? = some (.cells #[.slice none 0 0, .int .i64 0, .int .i64 0] 24)) := Lib.hid HX1.out
  have HN2 : Hid (NumsAt W1.drew a len F) := Lib.hid (HN1.out.below (Below.refl _ _).drew)
  have HB2 : Hid (Below w.heap.size w W1.drew) := Lib.hid HB1.out.drew
  obtain ⟨W2, hW2⟩ : ∃ W, W1.drew = W := ⟨_, rfl⟩
  rw [hW2] at HX2 HN2 HB2
  have HL := Lib.hid hl
  go_wp2_with fail
  by_cases h0 : len = 0
  · subst h0
    refine wp_region_held (S := fun z => Hid (z.heap[w.heap.size]? = some (tankB a 0 cap lk ft))) (by kernel_rfl) ?_
    change wpAnyH _ _ _ _ _ _ _ _ W1.drew
    rw [hW2]
    refine held_take (i := 1) (d := some 4) (v := .pointer (some ⟨w.heap.size, 0, none⟩)) rfl rfl (by kernel_rfl) (by kernel_rfl) (by kernel_rfl) (fun _ _ _ h => h) (Or.inl ⟨by rfl, fun z hz => by go_simp⟩) (Lib.hid HX2.out.1) ?_
    simp only [Act.put, List.setIfInBounds_toArray, List.set_cons_zero, List.set_cons_succ]
    refine held_take (i := 2) (d := some 5) (v := .slice a 0 cap) rfl rfl (by kernel_rfl) (by kernel_rfl) (by kernel_rfl) (fun _ _ _ h => h) (Or.inl ⟨by rfl, fun z hz => by (have c0 := heap_cell hz.out (j := 0) rfl; go_simp)⟩) (Lib.hid HX2.out.1) ?_
    simp only [Act.put, List.setIfInBounds_toArray, List.set_cons_zero, List.set_cons_succ]
    refine held_take (i := 4) (d := some 7) (v := .pointer (some ⟨w.heap.size, 1, none⟩)) rfl rfl (by kernel_rfl) (by kernel_rfl) (by kernel_rfl) (fun _ _ _ h => h) (Or.inl ⟨by rfl, fun z hz => by go_simp⟩) (Lib.hid HX2.out.1) ?_
    simp only [Act.put, List.setIfInBounds_toArray, List.set_cons_zero, List.set_cons_succ]
    refine held_take (i := 5) (d := some 8) (v := .int .i64 lk) rfl rfl (by kernel_rfl) (by kernel_rfl) (by kernel_rfl) (fun _ _ _ h => h) (Or.inl ⟨by rfl, fun z hz => by (have c0 := heap_cell hz.out (j := 1) rfl; go_simp)⟩) (Lib.hid HX2.out.1) ?_
    simp only [Act.put, List.setIfInBounds_toArray, List.set_cons_zero, List.set_cons_succ]
    refine held_take (i := 6) (d := some 9) (v := .pointer (some ⟨w.heap.size, 2, none⟩)) rfl rfl (by kernel_rfl) (by kernel_rfl) (by kernel_rfl) (fun _ _ _ h => h) (Or.inl ⟨by rfl, fun z hz => by go_simp⟩) (Lib.hid HX2.out.1) ?_
    simp only [Act.put, List.setIfInBounds_toArray, List.set_cons_zero, List.set_cons_succ]
    refine held_take (i := 7) (d := some 10) (v := .int .i64 ft) rfl rfl (by kernel_rfl) (by kernel_rfl) (by kernel_rfl) (fun _ _ _ h => h) (Or.inl ⟨by rfl, fun z hz => by (have c0 := heap_cell hz.out (j := 2) rfl; go_simp)⟩) (Lib.hid HX2.out.1) ?_
    simp only [Act.put, List.setIfInBounds_toArray, List.set_cons_zero, List.set_cons_succ]
    refine wpAnyH_all (rs := [0]) (by kernel_rfl) (by simp) (fun i hi => ?_)
    obtain rfl : i = 0 := by simpa using hi
    clear hi
    refine wpOp_step rfl (fun K hK => ?_)
    go_simp
    refine hK _ _ (held_and (Lib.hid (heap_up HX2.out.1 _)) (fun HS0 => ?_))
    clear hK K
    refine wpAnyH_all (rs := [3]) (by kernel_rfl) (by simp) (fun i hi => ?_)
    obtain rfl : i = 3 := by simpa using hi
    clear hi
    refine wpOp_step rfl (fun K hK => ?_)
    cases a
    all_goals
      go_simp
      refine hK _ _ (held_and (Lib.hid (heap_up HX2.out.1 _)) (fun HS3 => ?_))
      clear hK K
      obtain ⟨W5, hW5⟩ : ∃ W, W2.alloc (.cells #[] 3) = W := ⟨_, rfl⟩
      have hb : Below W2.heap.size W2 W5 := by rw [← hW5]; exact below_new _ _
      rw [hW5] at HS3
      rw [hW5]
      clear hW5
      have HXE : Hid ((W5.heap[w.heap.size]? = some (.cells #[.slice _ 0 cap, .int .i64 lk, .int .i64 ft] 24) ∧ W5.heap[w.heap.size + 1]? = some (.cells #[.slice none 0 0, .int .i64 0, .int .i64 0] 24))) := Lib.hid ⟨heap_lft HX2.out.1 hb, heap_lft HX2.out.2 hb⟩
      have HBE := Lib.hid (below_thn HB2.out hb)
      clear hb
      try simp only [Act.put, List.setIfInBounds_toArray, List.set_cons_zero, List.set_cons_succ]
      refine held_take (i := 8) (d := some 11) (v := tankV (some ⟨W2.heap.size, 0, none⟩) 0 0 lk ft) rfl rfl (by kernel_rfl) (by kernel_rfl) (by kernel_rfl) (fun _ _ _ h => h) (Or.inl ⟨by rfl, fun z hz => by go_simp⟩) HS3 ?_
      simp only [Act.put, List.setIfInBounds_toArray, List.set_cons_zero, List.set_cons_succ]
      refine wpAnyH_all (rs := [9]) (by kernel_rfl) (by simp) (fun i hi => ?_)
      obtain rfl : i = 9 := by simpa using hi
      clear hi
      refine wpOp_step rfl (fun K hK => ?_)
      have t0 := heap_cell HXE.out.1 (j := 0) rfl
      have t1 := heap_cell HXE.out.1 (j := 1) rfl
      have t2 := heap_cell HXE.out.1 (j := 2) rfl
      have r0 := heap_cell HXE.out.2 (j := 0) rfl
      have fr0 := heap_frozen HXE.out.2 0
      have r1 := heap_cell HXE.out.2 (j := 1) rfl
      have fr1 := heap_frozen HXE.out.2 1
      have r2 := heap_cell HXE.out.2 (j := 2) rfl
      have fr2 := heap_frozen HXE.out.2 2
      go_simp
      refine hK _ _ (held_and (Lib.hid ((Below.heap_setCell _ _ _ _ (by first | (simp; done) | (simp; omega))).trans ((Below.heap_setCell _ _ _ _ (by first | (simp; done) | (simp; omega))).trans ((Below.heap_setCell _ _ _ _ (by first | (simp; done) | (simp; omega))).trans HXE.out.1)))) (fun HS9 => ?_))
      clear hK K
      refine wpAnyH_done (by kernel_rfl) ?_ _
      go_wp2_with fail
      refine bodyPost_ret (v := tankV (some ⟨W2.heap.size, 0, none⟩) 0 0 lk ft) (by simp [results, Try.results5, go_sem, r0, r1, r2]) rfl ?_
      refine ⟨_, _, rfl, fun j hj => absurd hj (Nat.not_lt_zero j), ?_⟩
      exact ((HBE.out.setCell (p := ⟨w.heap.size + 1, 0, none⟩) (by first | (simp; done) | (simp; omega)) _).setCell (p := ⟨w.heap.size + 1, 1, none⟩) (by first | (simp; done) | (simp; omega)) _).setCell (p := ⟨w.heap.size + 1, 2, none⟩) (by first | (simp; done) | (simp; omega)) _
  · refine wp_region_held (S := fun z => Hid (z.heap[w.heap.size]? = some (tankB a len cap lk ft))) (by kernel_rfl) ?_
    change wpAnyH _ _ _ _ _ _ _ _ W1.drew
    rw [hW2]
    refine held_take (i := 1) (d := some 4) (v := .pointer (some ⟨w.heap.size, 0, none⟩)) rfl rfl (by kernel_rfl) (by kernel_rfl) (by kernel_rfl) (fun _ _ _ h => h) (Or.inl ⟨by rfl, fun z hz => by go_simp⟩) (Lib.hid HX2.out.1) ?_
    simp only [Act.put, List.setIfInBounds_toArray, List.set_cons_zero, List.set_cons_succ]
    refine held_take (i := 2) (d := some 5) (v := .slice a len cap) rfl rfl (by kernel_rfl) (by kernel_rfl) (by kernel_rfl) (fun _ _ _ h => h) (Or.inl ⟨by rfl, fun z hz => by (have c0 := heap_cell hz.out (j := 0) rfl; go_simp)⟩) (Lib.hid HX2.out.1) ?_
    simp only [Act.put, List.setIfInBounds_toArray, List.set_cons_zero, List.set_cons_succ]
    refine held_take (i := 4) (d := some 7) (v := .pointer (some ⟨w.heap.size, 1, none⟩)) rfl rfl (by kernel_rfl) (by kernel_rfl) (by kernel_rfl) (fun _ _ _ h => h) (Or.inl ⟨by rfl, fun z hz => by go_simp⟩) (Lib.hid HX2.out.1) ?_
    simp only [Act.put, List.setIfInBounds_toArray, List.set_cons_zero, List.set_cons_succ]
    refine held_take (i := 5) (d := some 8) (v := .int .i64 lk) rfl rfl (by kernel_rfl) (by kernel_rfl) (by kernel_rfl) (fun _ _ _ h => h) (Or.inl ⟨by rfl, fun z hz => by (have c0 := heap_cell hz.out (j := 1) rfl; go_simp)⟩) (Lib.hid HX2.out.1) ?_
    simp only [Act.put, List.setIfInBounds_toArray, List.set_cons_zero, List.set_cons_succ]
    refine held_take (i := 6) (d := some 9) (v := .pointer (some ⟨w.heap.size, 2, none⟩)) rfl rfl (by kernel_rfl) (by kernel_rfl) (by kernel_rfl) (fun _ _ _ h => h) (Or.inl ⟨by rfl, fun z hz => by go_simp⟩) (Lib.hid HX2.out.1) ?_
    simp only [Act.put, List.setIfInBounds_toArray, List.set_cons_zero, List.set_cons_succ]
    refine held_take (i := 7) (d := some 10) (v := .int .i64 ft) rfl rfl (by kernel_rfl) (by kernel_rfl) (by kernel_rfl) (fun _ _ _ h => h) (Or.inl ⟨by rfl, fun z hz => by (have c0 := heap_cell hz.out (j := 2) rfl; go_simp)⟩) (Lib.hid HX2.out.1) ?_
    simp only [Act.put, List.setIfInBounds_toArray, List.set_cons_zero, List.set_cons_succ]
    refine wpAnyH_all (rs := [0]) (by kernel_rfl) (by simp) (fun i hi => ?_)
    obtain rfl : i = 0 := by simpa using hi
    clear hi
    refine wpOp_step rfl (fun K hK => ?_)
    go_simp
    refine hK _ _ (held_and (Lib.hid (heap_up HX2.out.1 _)) (fun HS0 => ?_))
    clear hK K
    refine wpAnyH_all (rs := [3]) (by kernel_rfl) (by simp) (fun i hi => ?_)
    obtain rfl : i = 3 := by simpa using hi
    clear hi
    refine wpOp_step rfl (fun K hK => ?_)
    obtain ⟨b, off, rfl⟩ := HN2.out.some (by omega)
    obtain ⟨i0, hi0, hz0, hz1, hz2⟩ := infoInt
    refine step_append_lies _ rfl _ _ 22 rfl W2.heap.size 3 i0 (.int .i64 0) 1 8 Try.underlying22 hi0 hz0 hz1 hz2 rfl (by decide) _ _ _ rfl (row_empty _ _ rfl (Nat.le_refl _)) ⟨b, off, none⟩ len cap (numsCells len F) rfl (by rw [numsCells_length, Nat.mul_one]) (fun j u hj => cell_up (numsCells_hold HN2.out hj) _) (fun u hu => by
      obtain ⟨j, hj⟩ := List.getElem?_of_mem hu
      obtain ⟨_, rfl⟩ := numsCells_at hj
      rfl) (by omega) (by unfold maxLen; omega) (by omega) (by simp) _ rfl ?_
    intro g cap' W5 hown hgrow hgv hlt
    have hb : Below W2.heap.size W2 W5 := (below_new W2 _).grown hgrow (by first | (simp; done) | (simp; omega)) (fun k e => by cases e; exact Nat.le_refl _)
    have HXE : Hid (W5.heap[w.heap.size]? = some (tankB (some ⟨b, off, none⟩) len cap lk ft) ∧ W5.heap[w.heap.size + 1]? = some (.cells #[.slice none 0 0, .int .i64 0, .int .i64 0] 24)) := Lib.hid ⟨heap_lft HX2.out.1 hb, heap_lft HX2.out.2 hb⟩
    have HBE := Lib.hid (below_thn HB2.out hb)
    have HNE : Hid (NumsAt W5 (some ⟨g, 0, none⟩) len F) := Lib.hid (nums_of_row (by simpa using hown) (by omega))
    have hg5 := row_base hown
    have HG5 : Hid (w.heap.size + 1 < g) := Lib.hid (by have := (Array.getElem?_eq_some_iff.1 HX2.out.2).1; omega)
    rw [Nat.zero_add]
    clear hg5 hb hown hgrow hgv hlt
    refine hK _ _ (held_and (Lib.hid HXE.out.1) (fun HS3 => ?_))
    clear hK K
    try simp only [Act.put, List.setIfInBounds_toArray, List.set_cons_zero, List.set_cons_succ]
    refine held_take (i := 8) (d := some 11) (v := tankV (some ⟨g, 0, none⟩) len cap' lk ft) rfl rfl (by kernel_rfl) (by kernel_rfl) (by kernel_rfl) (fun _ _ _ h => h) (Or.inl ⟨by rfl, fun z hz => by go_simp⟩) HS3 ?_
    simp only [Act.put, List.setIfInBounds_toArray, List.set_cons_zero, List.set_cons_succ]
    refine wpAnyH_all (rs := [9]) (by kernel_rfl) (by simp) (fun i hi => ?_)
    obtain rfl : i = 9 := by simpa using hi
    clear hi
    refine wpOp_step rfl (fun K hK => ?_)
    have t0 := heap_cell HXE.out.1 (j := 0) rfl
    have t1 := heap_cell HXE.out.1 (j := 1) rfl
    have t2 := heap_cell HXE.out.1 (j := 2) rfl
    have r0 := heap_cell HXE.out.2 (j := 0) rfl
    have fr0 := heap_frozen HXE.out.2 0
    have r1 := heap_cell HXE.out.2 (j := 1) rfl
    have fr1 := heap_frozen HXE.out.2 1
    have r2 := heap_cell HXE.out.2 (j := 2) rfl
    have fr2 := heap_frozen HXE.out.2 2
    go_simp
    refine hK _ _ (held_and (Lib.hid ((Below.heap_setCell _ _ _ _ (by first | (simp; done) | (simp; omega))).trans ((Below.heap_setCell _ _ _ _ (by first | (simp; done) | (simp; omega))).trans ((Below.heap_setCell _ _ _ _ (by first | (simp; done) | (simp; omega))).trans HXE.out.1)))) (fun HS9 => ?_))
    clear hK K
    refine wpAnyH_done (by kernel_rfl) ?_ _
    go_wp2_with fail
    refine bodyPost_ret (v := tankV (some ⟨g, 0, none⟩) len cap' lk ft) (by simp [results, Try.results5, go_sem, r0, r1, r2]) rfl ?_
    refine ⟨_, _, rfl, ?_, ?_⟩
    · have hg := HG5.out
      exact nums_set (p := ⟨w.heap.size + 1, 2, none⟩) (nums_set (p := ⟨w.heap.size + 1, 1, none⟩) (nums_set (p := ⟨w.heap.size + 1, 0, none⟩) HNE.out (by simp; omega) _) (by simp; omega) _) (by simp; omega) _
    · exact ((HBE.out.setCell (p := ⟨w.heap.size + 1, 0, none⟩) (by first | (simp; done) | (simp; omega)) _).setCell (p := ⟨w.heap.size + 1, 1, none⟩) (by first | (simp; done) | (simp; omega)) _).setCell (p := ⟨w.heap.size + 1, 2, none⟩) (by first | (simp; done) | (simp; omega)) _

set_option maxHeartbeats 1000000 in
set_option maxRecDepth 100000 in
/-- **SameInts**, of two slices that read alike. -/
theorem sameInts_any (a a' : Option Addr) (len cap cap' : Nat) (F : Nat → Int) (hl : len ≤ 1000) (w : World) (h : NumsAt w a len F) (h' : NumsAt w a' len F) :
    Calls Try.prog 14 #[.slice a len cap, .slice a' len cap'] w fun e w' => e = .returned (.bool true) ∧ Below w.heap.size w w' := by
  have HA := Lib.hid h
  have HA' := Lib.hid h'
  clear h h'
  go_enter Try.func14, Try.ntmps14
  go_wp2_with fail
  go_loopw [5] (fun i wr => ∃ k : Nat, k ≤ len ∧ i = .int .i64 k ∧ Below w.heap.size w wr) (fun i _ => len - (intOf i).toNat)
  case atStart => exact ⟨0, Nat.zero_le _, rfl, Below.refl _ _⟩
  case round =>
    obtain ⟨k, hk, rfl, hB⟩ := hrel
    by_cases hlt : k < len
    · obtain ⟨b, off, rfl, g0⟩ := HA.out k hlt
      obtain ⟨b', off', rfl, g1⟩ := HA'.out k hlt
      have e0 := below_cell hB g0
      have e1 := below_cell hB g1
      have hk2 : (k : Int) < len := by omega
      have x0 := among_below e0
      have x1 := among_below e1
      have HB := Lib.hid hB
      have HSt : Hid (Below wr.heap.size wr wr.drew) := Lib.hid (Below.refl _ _).drew
      have hne : Nonempty (Among (Below wr.heap.size wr)) := ⟨⟨_, HSt.out⟩⟩
      clear hB g0 g1 e0 e1
      go_wp2_with fail
      refine wp_region_class (Below wr.heap.size wr) (by kernel_rfl) (by kernel_rfl) HSt.out ?_
      repeat (go_big_quiet_step (fail))
      refine wpQuiet_nil ?_
      intro w3 hx
      have HB3 : Hid (Below w.heap.size w w3) := Lib.hid (below_thn HB.out (among_out hx))
      clear hx hne x0 x1
      go_wp2_with fail
      go_roundw
      case rel => exact ⟨k + 1, by omega, by go_num, HB3.out⟩
      case measure => simp [intOf]; omega
    · obtain rfl : k = len := by omega
      go_wp2_with fail
      go_ret
      exact ⟨rfl, hB⟩
theorem rCheck_any (a : Option Addr) (len cap : Nat) (F : Nat → Int) (lk ft : Int) (hl : len ≤ 40) (w : World) (h : NumsAt w a len F) :
    Calls Try.prog 13 #[tankV a len cap lk ft] w fun e w' => e = .returned (.int .i64 (Pure.err (Pure.okTank len F lk ft) 30)) ∧ Below w.heap.size w w' := by
  have HN := Lib.hid (h.alloc (tankB a len cap lk ft))
  clear h
  obtain ⟨ok, hok⟩ : ∃ ok, Pure.okTank len F lk ft = ok := ⟨_, rfl⟩
  rw [hok]
  have HOK := Lib.hid hok
  clear hok
  go_enter Try.func13, Try.ntmps13
  go_wp2_with fail
  refine (rTank_any a len cap F lk ft hl _ HN.out).mono ?_
  rintro e w2 ⟨rfl, hb⟩
  have HB := Lib.hid ((below_new w (tankB a len cap lk ft)).trans (hb.mono (by simp)))
  clear hb
  rw [HOK.out]
  cases ok
  all_goals
    go_wp2_with fail
    go_ret
    exact ⟨rfl, HB.out⟩

end Go.Proofs.Ytpgpebgimmaobaa
