/-
  The contracts of slices.Clone at numbers, arrivals and sales.
-/
import Derived.Test.YtacdbjandcdejaaPCheck
import Derived.ArgAppend
import Derived.Lib.SliceRun
namespace Go.Proofs.Ytacdbjandcdejaa
open Go.RowKit

/-- The cells of some numbers. -/
def numsCells (len : Nat) (F : Nat → Int) : List Value := (List.range len).map fun j => .int .i64 (F j)
theorem numsCells_length (len : Nat) (F : Nat → Int) : (numsCells len F).length = len := by simp [numsCells]
theorem numsCells_at {len : Nat} {F : Nat → Int} {j : Nat} {v : Value} (h : (numsCells len F)[j]? = some v) : j < len ∧ v = .int .i64 (F j) := by
  unfold numsCells at h
  rw [List.getElem?_map] at h
  by_cases hj : j < len
  · rw [List.getElem?_range hj] at h
    simp at h
    exact ⟨hj, h.symm⟩
  · rw [List.getElem?_eq_none (by simpa using hj)] at h
    cases h
theorem numsCells_get {len : Nat} {F : Nat → Int} {j : Nat} (h : j < len) : (numsCells len F)[j]? = some (.int .i64 (F j)) := by
  unfold numsCells
  rw [List.getElem?_map, List.getElem?_range h]
  rfl
theorem numsCells_hold {w : World} {b off len : Nat} {F : Nat → Int} (h : NumsAt w (some ⟨b, off, none⟩) len F) {j : Nat} {v : Value} (hj : (numsCells len F)[j]? = some v) : w.cell? ((⟨b, off, none⟩ : Addr).add j) = some v := by
  obtain ⟨h1, rfl⟩ := numsCells_at hj
  rw [Go.WideShapes.add_plain]
  exact h.at h1
/-- A slice of the call's own memory, which reads as these numbers. -/
def OwnNums (w : World) (base : Nat) (t : TypeId) (k : Nat) (a : Option Addr) (len cap : Nat) (F : Nat → Int) : Prop := w.ownsRow base t k (.slice a len cap) len (numsCells (len * k) F)
theorem OwnNums.nums {w : World} {base : Nat} {t : TypeId} {k : Nat} {a : Option Addr} {len cap : Nat} {F : Nat → Int} (h : OwnNums w base t k a len cap F) : NumsAt w a (len * k) F := by
  obtain ⟨_, ⟨_, hn⟩ | ⟨g, cap', cur, he, _, hg, _, _, _, ht⟩⟩ := h
  · subst hn
    intro j hj
    omega
  · simp only [Value.slice.injEq] at he
    obtain ⟨rfl, _, rfl⟩ := he
    refine fun j hj => ⟨g, 0, rfl, ?_⟩
    have h1 := numsCells_get (F := F) hj
    rw [← ht, List.getElem?_take_of_lt (by omega)] at h1
    unfold World.cell?
    simp only [hg]
    simpa using h1
theorem OwnNums.below {w w' : World} {base : Nat} {t : TypeId} {k : Nat} {a : Option Addr} {len cap : Nat} {F : Nat → Int} (h : OwnNums w base t k a len cap F) (hb : Below w.heap.size w w') : OwnNums w' base t k a len cap F := by
  obtain ⟨h0, h1 | ⟨g, cap', cur, he, hbase, hg, h2⟩⟩ := h
  · exact ⟨h0, .inl h1⟩
  · exact ⟨h0, .inr ⟨g, cap', cur, he, hbase, heap_lft hg hb, h2⟩⟩
theorem OwnNums.base {w : World} {base base' : Nat} {t : TypeId} {k : Nat} {a : Option Addr} {len cap : Nat} {F : Nat → Int} (h : OwnNums w base t k a len cap F) (hb : base' ≤ base) : OwnNums w base' t k a len cap F := by
  obtain ⟨h0, h1 | ⟨g, cap', cur, he, hbase, h2⟩⟩ := h
  · exact ⟨h0, .inl h1⟩
  · exact ⟨h0, .inr ⟨g, cap', cur, he, by omega, h2⟩⟩
theorem own_empty (w : World) (t : TypeId) (k : Nat) {b base : Nat} (hb : b = w.heap.size) (hbase : base ≤ b) (F : Nat → Int) : OwnNums (w.alloc (.cells #[] t)) base t k (some ⟨b, 0, none⟩) 0 0 F := by
  subst hb
  refine ⟨by simp [numsCells], .inr ⟨w.heap.size, 0, #[], rfl, hbase, heap_top _ _ rfl, by simp, by unfold maxLen; omega, by simp, by simp [numsCells]⟩⟩
theorem own_nil (w : World) (t : TypeId) (k base : Nat) (F : Nat → Int) : OwnNums w base t k none 0 0 F := ⟨by simp [numsCells], .inl ⟨rfl, rfl⟩⟩
/-- A copy in the call's own memory. -/
def CopyOut (t : TypeId) (k len : Nat) (F : Nat → Int) (w : World) (e : Ending) (w' : World) : Prop :=
  ∃ a cap, e = .returned (.slice a len cap) ∧ OwnNums w' w.heap.size t k a len cap F ∧ Below w.heap.size w w'

theorem infoInt : ∃ i, Try.prog.info? 3 = some i ∧ i.zero = some (.int .i64 0) ∧ i.size = 1 ∧ i.bytes = 8 := by
  have h : (Try.prog.info? 3).map (fun i => (i.zero, i.size, i.bytes)) = some (some (.int .i64 0), 1, 8) := by kernel_rfl
  obtain ⟨i, hi, h2⟩ := Option.map_eq_some_iff.1 h
  simp only [Prod.mk.injEq] at h2
  exact ⟨i, hi, h2.1, h2.2.1, h2.2.2⟩
set_option maxHeartbeats 1000000 in
set_option maxRecDepth 100000 in
theorem cloneInt_any (a : Option Addr) (len cap : Nat) (F : Nat → Int) (hl : len ≤ 40) (hnil : a = none → len = 0 ∧ cap = 0) (w : World) (h : NumsAt w a (len * 1) F) :
    Calls Try.prog 35 #[.slice a len cap] w (CopyOut 3 1 len F w) := by
  cases a with
  | none =>
    obtain ⟨rfl, rfl⟩ := hnil rfl
    have hnl := Lib.run_eql_slice_nil (P := Try.prog) w 22 3 none 0 0 0 0 Try.underlying22
    simp only [Option.isNone_none] at hnl
    go_enter Try.func35, Try.ntmps35
    go_wp2_with fail
    go_ret
    exact ⟨none, 0, rfl, own_nil _ _ _ _ _, Below.refl _ _⟩
  | some b0 =>
    clear hnil
    by_cases h0 : len = 0
    · subst h0
      clear h
      have hnl := Lib.run_eql_slice_nil (P := Try.prog) w 22 3 (some b0) 0 cap 0 0 Try.underlying22
      simp only [Option.isNone_some] at hnl
      go_enter Try.func35, Try.ntmps35
      go_wp2_with fail
      go_ret
      exact ⟨_, _, rfl, own_empty _ _ _ rfl (Nat.le_refl _) _, below_new _ _⟩
    · obtain ⟨b, off, hb0, _⟩ := h 0 (by omega)
      cases hb0
      have HN : Hid (NumsAt (w.alloc (.cells #[] 3)) (some ⟨b, off, none⟩) (len * 1) F) := Lib.hid (h.alloc _)
      clear h
      obtain ⟨i0, hi, hz0, hz1, hz2⟩ := infoInt
      have hnl := Lib.run_eql_slice_nil (P := Try.prog) w 22 3 (some ⟨b, off, none⟩) len cap 0 0 Try.underlying22
      simp only [Option.isNone_some] at hnl
      go_enter Try.func35, Try.ntmps35
      go_wp2_with (at_builtin; refine wpList_append_grows _ rfl (.tmp 5) (.tmp 6) 22 rfl 3 i0 (.int .i64 0) 1 8 Try.underlying22 hi hz0 hz1 hz2 rfl (by decide) (some ⟨w.heap.size, 0, none⟩) 0 0 [] rfl (by simp) rfl (by intro _ _ _ _ h; simp at h) ⟨b, off, none⟩ len cap (numsCells (len * 1) F) rfl (numsCells_length _ _) (fun j v h => numsCells_hold HN.out h) ?c2 (by omega) (by unfold maxLen; omega) (by omega) ?grow)
      case c2 =>
        intro v hv
        obtain ⟨j, hj⟩ := List.getElem?_of_mem hv
        obtain ⟨_, rfl⟩ := numsCells_at hj
        rfl
      case grow =>
        intro v' w' hown hgrow
        have hown : w'.ownsRow (w.alloc (.cells #[] 3)).heap.size 3 1 v' len (numsCells (len * 1) F) := by simpa using hown
        obtain ⟨a', cap', rfl⟩ : ∃ a' cap', v' = .slice a' len cap' := by
          obtain ⟨_, ⟨rfl, h⟩ | ⟨g, c, cur, rfl, _⟩⟩ := hown
          · exact absurd h h0
          · exact ⟨_, _, rfl⟩
        have HO : Hid (OwnNums w' w.heap.size 3 1 a' len cap' F) := Lib.hid (OwnNums.base hown (by simp))
        have HB : Hid (Below w.heap.size w w') := Lib.hid (((Below.refl _ _).alloc (Nat.le_refl _) _).grown hgrow (by simp) (fun k h => by cases h))
        clear hown hgrow
        go_wp2_with fail
        go_ret
        exact ⟨_, _, rfl, HO.out, HB.out⟩

theorem infoArr : ∃ i, Try.prog.info? 43 = some i ∧ i.zero = some (.agg #[.int .i64 0, .int .i64 0]) ∧ i.size = 2 ∧ i.bytes = 16 := by
  have h : (Try.prog.info? 43).map (fun i => (i.zero, i.size, i.bytes)) = some (some (.agg #[.int .i64 0, .int .i64 0]), 2, 16) := by kernel_rfl
  obtain ⟨i, hi, h2⟩ := Option.map_eq_some_iff.1 h
  simp only [Prod.mk.injEq] at h2
  exact ⟨i, hi, h2.1, h2.2.1, h2.2.2⟩
set_option maxHeartbeats 1000000 in
set_option maxRecDepth 100000 in
theorem cloneArr_any (a : Option Addr) (len cap : Nat) (F : Nat → Int) (hl : len ≤ 40) (hnil : a = none → len = 0 ∧ cap = 0) (w : World) (h : NumsAt w a (len * 2) F) :
    Calls Try.prog 36 #[.slice a len cap] w (CopyOut 43 2 len F w) := by
  cases a with
  | none =>
    obtain ⟨rfl, rfl⟩ := hnil rfl
    have hnl := Lib.run_eql_slice_nil (P := Try.prog) w 23 43 none 0 0 0 0 Try.underlying23
    simp only [Option.isNone_none] at hnl
    go_enter Try.func36, Try.ntmps36
    go_wp2_with fail
    go_ret
    exact ⟨none, 0, rfl, own_nil _ _ _ _ _, Below.refl _ _⟩
  | some b0 =>
    clear hnil
    by_cases h0 : len = 0
    · subst h0
      clear h
      have hnl := Lib.run_eql_slice_nil (P := Try.prog) w 23 43 (some b0) 0 cap 0 0 Try.underlying23
      simp only [Option.isNone_some] at hnl
      go_enter Try.func36, Try.ntmps36
      go_wp2_with fail
      go_ret
      exact ⟨_, _, rfl, own_empty _ _ _ rfl (Nat.le_refl _) _, below_new _ _⟩
    · obtain ⟨b, off, hb0, _⟩ := h 0 (by omega)
      cases hb0
      have HN : Hid (NumsAt (w.alloc (.cells #[] 43)) (some ⟨b, off, none⟩) (len * 2) F) := Lib.hid (h.alloc _)
      clear h
      obtain ⟨i0, hi, hz0, hz1, hz2⟩ := infoArr
      have hnl := Lib.run_eql_slice_nil (P := Try.prog) w 23 43 (some ⟨b, off, none⟩) len cap 0 0 Try.underlying23
      simp only [Option.isNone_some] at hnl
      go_enter Try.func36, Try.ntmps36
      go_wp2_with (at_builtin; refine wpList_append_grows _ rfl (.tmp 5) (.tmp 6) 23 rfl 43 i0 (.agg #[.int .i64 0, .int .i64 0]) 2 16 Try.underlying23 hi hz0 hz1 hz2 rfl (by decide) (some ⟨w.heap.size, 0, none⟩) 0 0 [] rfl (by simp) rfl (by intro _ _ _ _ h; simp at h) ⟨b, off, none⟩ len cap (numsCells (len * 2) F) rfl (numsCells_length _ _) (fun j v h => numsCells_hold HN.out h) ?c2 (by omega) (by unfold maxLen; omega) (by omega) ?grow)
      case c2 =>
        intro v hv
        obtain ⟨j, hj⟩ := List.getElem?_of_mem hv
        obtain ⟨_, rfl⟩ := numsCells_at hj
        rfl
      case grow =>
        intro v' w' hown hgrow
        have hown : w'.ownsRow (w.alloc (.cells #[] 43)).heap.size 43 2 v' len (numsCells (len * 2) F) := by simpa using hown
        obtain ⟨a', cap', rfl⟩ : ∃ a' cap', v' = .slice a' len cap' := by
          obtain ⟨_, ⟨rfl, h⟩ | ⟨g, c, cur, rfl, _⟩⟩ := hown
          · exact absurd h h0
          · exact ⟨_, _, rfl⟩
        have HO : Hid (OwnNums w' w.heap.size 43 2 a' len cap' F) := Lib.hid (OwnNums.base hown (by simp))
        have HB : Hid (Below w.heap.size w w') := Lib.hid (((Below.refl _ _).alloc (Nat.le_refl _) _).grown hgrow (by simp) (fun k h => by cases h))
        clear hown hgrow
        go_wp2_with fail
        go_ret
        exact ⟨_, _, rfl, HO.out, HB.out⟩

theorem infoSale : ∃ i, Try.prog.info? 41 = some i ∧ i.zero = some (.agg #[.int .i64 0, .int .i64 0, .int .i64 0, .int .i64 0]) ∧ i.size = 4 ∧ i.bytes = 32 := by
  have h : (Try.prog.info? 41).map (fun i => (i.zero, i.size, i.bytes)) = some (some (.agg #[.int .i64 0, .int .i64 0, .int .i64 0, .int .i64 0]), 4, 32) := by kernel_rfl
  obtain ⟨i, hi, h2⟩ := Option.map_eq_some_iff.1 h
  simp only [Prod.mk.injEq] at h2
  exact ⟨i, hi, h2.1, h2.2.1, h2.2.2⟩
set_option maxHeartbeats 1000000 in
set_option maxRecDepth 100000 in
theorem cloneSale_any (a : Option Addr) (len cap : Nat) (F : Nat → Int) (hl : len ≤ 40) (hnil : a = none → len = 0 ∧ cap = 0) (w : World) (h : NumsAt w a (len * 4) F) :
    Calls Try.prog 37 #[.slice a len cap] w (CopyOut 41 4 len F w) := by
  cases a with
  | none =>
    obtain ⟨rfl, rfl⟩ := hnil rfl
    have hnl := Lib.run_eql_slice_nil (P := Try.prog) w 24 41 none 0 0 0 0 Try.underlying24
    simp only [Option.isNone_none] at hnl
    go_enter Try.func37, Try.ntmps37
    go_wp2_with fail
    go_ret
    exact ⟨none, 0, rfl, own_nil _ _ _ _ _, Below.refl _ _⟩
  | some b0 =>
    clear hnil
    by_cases h0 : len = 0
    · subst h0
      clear h
      have hnl := Lib.run_eql_slice_nil (P := Try.prog) w 24 41 (some b0) 0 cap 0 0 Try.underlying24
      simp only [Option.isNone_some] at hnl
      go_enter Try.func37, Try.ntmps37
      go_wp2_with fail
      go_ret
      exact ⟨_, _, rfl, own_empty _ _ _ rfl (Nat.le_refl _) _, below_new _ _⟩
    · obtain ⟨b, off, hb0, _⟩ := h 0 (by omega)
      cases hb0
      have HN : Hid (NumsAt (w.alloc (.cells #[] 41)) (some ⟨b, off, none⟩) (len * 4) F) := Lib.hid (h.alloc _)
      clear h
      obtain ⟨i0, hi, hz0, hz1, hz2⟩ := infoSale
      have hnl := Lib.run_eql_slice_nil (P := Try.prog) w 24 41 (some ⟨b, off, none⟩) len cap 0 0 Try.underlying24
      simp only [Option.isNone_some] at hnl
      go_enter Try.func37, Try.ntmps37
      go_wp2_with (at_builtin; refine wpList_append_grows _ rfl (.tmp 5) (.tmp 6) 24 rfl 41 i0 (.agg #[.int .i64 0, .int .i64 0, .int .i64 0, .int .i64 0]) 4 32 Try.underlying24 hi hz0 hz1 hz2 rfl (by decide) (some ⟨w.heap.size, 0, none⟩) 0 0 [] rfl (by simp) rfl (by intro _ _ _ _ h; simp at h) ⟨b, off, none⟩ len cap (numsCells (len * 4) F) rfl (numsCells_length _ _) (fun j v h => numsCells_hold HN.out h) ?c2 (by omega) (by unfold maxLen; omega) (by omega) ?grow)
      case c2 =>
        intro v hv
        obtain ⟨j, hj⟩ := List.getElem?_of_mem hv
        obtain ⟨_, rfl⟩ := numsCells_at hj
        rfl
      case grow =>
        intro v' w' hown hgrow
        have hown : w'.ownsRow (w.alloc (.cells #[] 41)).heap.size 41 4 v' len (numsCells (len * 4) F) := by simpa using hown
        obtain ⟨a', cap', rfl⟩ : ∃ a' cap', v' = .slice a' len cap' := by
          obtain ⟨_, ⟨rfl, h⟩ | ⟨g, c, cur, rfl, _⟩⟩ := hown
          · exact absurd h h0
          · exact ⟨_, _, rfl⟩
        have HO : Hid (OwnNums w' w.heap.size 41 4 a' len cap' F) := Lib.hid (OwnNums.base hown (by simp))
        have HB : Hid (Below w.heap.size w w') := Lib.hid (((Below.refl _ _).alloc (Nat.le_refl _) _).grown hgrow (by simp) (fun k h => by cases h))
        clear hown hgrow
        go_wp2_with fail
        go_ret
        exact ⟨_, _, rfl, HO.out, HB.out⟩

end Go.Proofs.Ytacdbjandcdejaa
