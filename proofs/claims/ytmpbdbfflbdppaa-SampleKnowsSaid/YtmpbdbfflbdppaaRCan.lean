/-
  The contracts of the specification's Can and Rest.
-/
import Derived.Test.YtmpbdbfflbdppaaRKnown
import Derived.BigRegion
namespace Go.Proofs.Ytmpbdbfflbdppaa
open Go.RowKit Go.Shelf

namespace Pure
theorem fst_get {b : Int} {L : List Int} {x : Int} (h : L[0]? = .some x) : fst b L = x := by
  unfold fst
  rw [List.head?_eq_getElem?, h]
  rfl
theorem lst_get {L : List Int} {m : Nat} {x : Int} (hm : L.length = m + 1) (h : L[m]? = .some x) : lst L = x := by
  unfold lst
  rw [List.getLast?_eq_getElem?, show L.length - 1 = m by omega, h]
  rfl
/-- What is known is not nothing. -/
theorem known_some {b lo hi o f : Int} (h : canE b lo hi o f = 0) : ∃ m, (nums b.toNat lo hi o f).length = m + 1 := by
  obtain ⟨_, _, _, h4⟩ := afterE_zero h
  rw [some_nums] at h4
  cases hL : nums b.toNat lo hi o f with
  | nil => rw [hL] at h4; cases h4
  | cons x L => exact ⟨L.length, rfl⟩
end Pure

/-- The first and the last of a slice that reads as a list. -/
theorem IntsAt.ends {w : World} {v : Value} {L : List Int} {m : Nat} (h : IntsAt w v L) (hm : L.length = m + 1) : ∃ g cap, v = .slice (some ⟨g, 0, none⟩) (m + 1) cap ∧ w.cell? ⟨g, 0, none⟩ = some (.int .i64 (Pure.fst 0 L)) ∧ w.cell? ⟨g, m, none⟩ = some (.int .i64 (Pure.lst L)) := by
  obtain ⟨a, cap, rfl, hc⟩ := h
  have h0 : L[0]? = some L[0] := List.getElem?_eq_getElem (by omega)
  have h1 : L[m]? = some L[m] := List.getElem?_eq_getElem (by omega)
  obtain ⟨g, rfl, c0⟩ := hc 0 _ h0
  obtain ⟨g', e, c1⟩ := hc m _ h1
  cases e
  exact ⟨g, cap, by rw [hm], by rw [Pure.fst_get h0]; exact c0, by rw [Pure.lst_get hm h1]; exact c1⟩
theorem first_any {L : List Int} {m : Nat} (hm : L.length = m + 1) (b : Int) : Pure.fst b L = Pure.fst 0 L := by
  have h0 : L[0]? = some L[0] := List.getElem?_eq_getElem (by omega)
  rw [Pure.fst_get h0, Pure.fst_get h0]

set_option maxHeartbeats 2000000 in
set_option maxRecDepth 100000 in
theorem rCan_any (b lo hi o f : Int) (w : World) :
    Calls Try.prog 16 #[cargoV b lo hi, .agg #[.int .i64 o, .int .i64 f]] w fun e w' => e = .returned (.tuple #[.agg #[.int .i64 (Pure.pick (Pure.canE b lo hi o f) (Pure.fst b (Pure.nums b.toNat lo hi o f))), .int .i64 (Pure.pick (Pure.canE b lo hi o f) (Pure.lst (Pure.nums b.toNat lo hi o f)))], .int .i64 (Pure.canE b lo hi o f)]) ∧ Below w.heap.size w w' := by
  go_enter Try.func16, Try.ntmps16
  go_wp2_with fail
  obtain ⟨W1, hW1⟩ : ∃ W1, ((w.alloc (.cells #[.int .i64 b, .int .i64 lo, .int .i64 hi] 25)).alloc (.cells #[.int .i64 o, .int .i64 f] 27)).alloc (.cells #[.int .i64 0, .int .i64 0] 23) = W1 := ⟨_, rfl⟩
  have hB1 : Below w.heap.size w W1 := by rw [← hW1]; exact (((Below.refl _ _).alloc (Nat.le_refl _) _).alloc (by simp) _).alloc (by simp; omega) _
  have hr1 : W1.heap[w.heap.size + 1 + 1]? = some (.cells #[.int .i64 0, .int .i64 0] 23) := by rw [← hW1]; exact heap_top _ _ (by simp)
  rw [hW1]
  have HB1 := Lib.hid hB1
  have HR1 := Lib.hid hr1
  clear hW1 hB1 hr1
  refine (rKnown_any b lo hi o f _).mono ?_
  rintro e w2 ⟨v, rfl, hints, hb⟩
  have hr2 := (hb.block _ (Array.getElem?_eq_some_iff.1 HR1.out).1).trans HR1.out
  have r0 := heap_cell hr2 (j := 0) rfl
  have r1 := heap_cell hr2 (j := 1) rfl
  have f0 := heap_frozen hr2 0
  have f1 := heap_frozen hr2 1
  have HB := Lib.hid (HB1.out.trans (hb.mono HB1.out.size))
  have HI := Lib.hid hints
  obtain ⟨code, hcode⟩ : ∃ c, Pure.canE b lo hi o f = c := ⟨_, rfl⟩
  rw [hcode]
  have HCODE := Lib.hid hcode
  clear hr2 hb hints hcode
  by_cases h0 : code = 0
  · subst h0
    obtain ⟨m, hm⟩ := Pure.known_some HCODE.out
    have hL := HI.out
    rw [Pure.knownL_zero HCODE.out] at hL
    obtain ⟨g, cap, rfl, g0, g1⟩ := hL.ends hm
    have HF := Lib.hid (first_any hm b)
    have hm63 : m + 1 ≤ 37 := by
      have h1 := Pure.nums_length b.toNat lo hi o f
      obtain ⟨q1, _, _, _⟩ := Pure.afterE_zero HCODE.out
      omega
    obtain ⟨p1, hp1⟩ : ∃ x, Pure.fst 0 (Pure.nums b.toNat lo hi o f) = x := ⟨_, rfl⟩
    obtain ⟨p2, hp2⟩ : ∃ x, Pure.lst (Pure.nums b.toNat lo hi o f) = x := ⟨_, rfl⟩
    rw [hp1] at g0 HF
    rw [hp2] at g1
    have HP2 := Lib.hid hp2
    clear hm hL hp1 hp2
    go_wp2_with fail
    go_region
    go_wp2
    have q0 : ((w2.setCell ⟨w.heap.size + 1 + 1, 0, none⟩ (.int .i64 p1)).setCell ⟨w.heap.size + 1 + 1, 1, none⟩ (.int .i64 p2)).cell? ⟨w.heap.size + 1 + 1, 0, none⟩ = some (.int .i64 p1) := by go_simp
    have q1 : ((w2.setCell ⟨w.heap.size + 1 + 1, 0, none⟩ (.int .i64 p1)).setCell ⟨w.heap.size + 1 + 1, 1, none⟩ (.int .i64 p2)).cell? ⟨w.heap.size + 1 + 1, 1, none⟩ = some (.int .i64 p2) := by go_simp
    refine bodyPost_ret (v := .tuple #[.agg #[.int .i64 p1, .int .i64 p2], .int .i64 0]) (by simp [results, Try.results16, go_sem, q0, q1]) rfl ⟨?_, ?_⟩
    · rw [HCODE.out, Pure.pick_zero rfl, Pure.pick_zero rfl, HF.out, HP2.out]
    · exact ((HB.out.setCell (p := ⟨w.heap.size + 1 + 1, 0, none⟩) (by simp; omega) _).setCell (p := ⟨w.heap.size + 1 + 1, 1, none⟩) (by simp; omega) _).drew
  · have hne : (code != 0) = true := by simpa using h0
    have H0 := Lib.hid h0
    clear h0
    go_wp2_with fail
    refine bodyPost_ret (v := .tuple #[.agg #[.int .i64 0, .int .i64 0], .int .i64 code]) (by simp [results, Try.results16, go_sem, r0, r1]) rfl ⟨?_, ?_⟩
    · rw [HCODE.out, Pure.pick_err H0.out, Pure.pick_err H0.out]
    · exact (HB.out.setCell (p := ⟨w.heap.size + 1 + 1, 0, none⟩) (by simp; omega) _).setCell (p := ⟨w.heap.size + 1 + 1, 1, none⟩) (by simp; omega) _

set_option maxHeartbeats 2000000 in
set_option maxRecDepth 100000 in
theorem rRest_any (b lo hi o f : Int) (w : World) :
    Calls Try.prog 18 #[cargoV b lo hi, .agg #[.int .i64 o, .int .i64 f]] w fun e w' => e = .returned (.tuple #[.agg #[.int .i64 (Pure.pick (Pure.restE b lo hi o f) (b - o)), .int .i64 (Pure.pick (Pure.restE b lo hi o f) (Pure.fst b (Pure.nums b.toNat lo hi o f) - f)), .int .i64 (Pure.pick (Pure.restE b lo hi o f) (Pure.lst (Pure.nums b.toNat lo hi o f) - f))], .int .i64 (Pure.restE b lo hi o f)]) ∧ Below w.heap.size w w' := by
  go_enter Try.func18, Try.ntmps18
  go_wp2_with fail
  obtain ⟨W1, hW1⟩ : ∃ W1, ((w.alloc (.cells #[.int .i64 b, .int .i64 lo, .int .i64 hi] 25)).alloc (.cells #[.int .i64 o, .int .i64 f] 27)).alloc (.cells #[.int .i64 0, .int .i64 0, .int .i64 0] 25) = W1 := ⟨_, rfl⟩
  have hB1 : Below w.heap.size w W1 := by rw [← hW1]; exact (((Below.refl _ _).alloc (Nat.le_refl _) _).alloc (by simp) _).alloc (by simp; omega) _
  have hr1 : W1.heap[w.heap.size + 1 + 1]? = some (.cells #[.int .i64 0, .int .i64 0, .int .i64 0] 25) := by rw [← hW1]; exact heap_top _ _ (by simp)
  have hc1 : W1.heap[w.heap.size]? = some (.cells #[.int .i64 b, .int .i64 lo, .int .i64 hi] 25) := by rw [← hW1]; exact heap_up (heap_up (heap_top _ _ rfl) _) _
  have hd1 : W1.heap[w.heap.size + 1]? = some (.cells #[.int .i64 o, .int .i64 f] 27) := by rw [← hW1]; exact heap_up (heap_top _ _ (by simp)) _
  have HC1 := Lib.hid hc1
  have HD1 := Lib.hid hd1
  clear hc1 hd1
  rw [hW1]
  have HB1 := Lib.hid hB1
  have HR1 := Lib.hid hr1
  clear hW1 hB1 hr1
  refine (rKnown_any b lo hi o f _).mono ?_
  rintro e w2 ⟨v, rfl, hints, hb⟩
  have hr2 := (hb.block _ (Array.getElem?_eq_some_iff.1 HR1.out).1).trans HR1.out
  have r0 := heap_cell hr2 (j := 0) rfl
  have r1 := heap_cell hr2 (j := 1) rfl
  have r2 := heap_cell hr2 (j := 2) rfl
  have f2 := heap_frozen hr2 2
  have c0 := heap_cell ((hb.block _ (Array.getElem?_eq_some_iff.1 HC1.out).1).trans HC1.out) (j := 0) rfl
  have d0 := heap_cell ((hb.block _ (Array.getElem?_eq_some_iff.1 HD1.out).1).trans HD1.out) (j := 0) rfl
  have d1 := heap_cell ((hb.block _ (Array.getElem?_eq_some_iff.1 HD1.out).1).trans HD1.out) (j := 1) rfl
  have f0 := heap_frozen hr2 0
  have f1 := heap_frozen hr2 1
  have HB := Lib.hid (HB1.out.trans (hb.mono HB1.out.size))
  have HI := Lib.hid hints
  obtain ⟨code, hcode⟩ : ∃ c, Pure.canE b lo hi o f = c := ⟨_, rfl⟩
  rw [hcode]
  have HCODE := Lib.hid hcode
  clear hr2 hb hints hcode
  by_cases h0 : code = 0
  · subst h0
    obtain ⟨m, hm⟩ := Pure.known_some HCODE.out
    have hL := HI.out
    rw [Pure.knownL_zero HCODE.out] at hL
    obtain ⟨g, cap, rfl, g0, g1⟩ := hL.ends hm
    have HF := Lib.hid (first_any hm b)
    have hm63 : m + 1 ≤ 37 := by
      have h1 := Pure.nums_length b.toNat lo hi o f
      obtain ⟨q1, _, _, _⟩ := Pure.afterE_zero HCODE.out
      omega
    obtain ⟨q1, q2, _, _⟩ := Pure.afterE_zero HCODE.out
    have hsb := Pure.span_bounds (b := b.toNat) (lo := lo) (hi := hi) (o := o) (f := f)
    rw [first_any hm] at hsb
    obtain ⟨p1, hp1⟩ : ∃ x, Pure.fst 0 (Pure.nums b.toNat lo hi o f) = x := ⟨_, rfl⟩
    obtain ⟨p2, hp2⟩ : ∃ x, Pure.lst (Pure.nums b.toNat lo hi o f) = x := ⟨_, rfl⟩
    rw [hp1] at g0 HF hsb
    rw [hp2] at g1 hsb
    have HP2 := Lib.hid hp2
    have hs1 := hsb.1
    have hs2 := hsb.2
    clear hm hL hp1 hp2 hsb
    by_cases hob : o = b
    · subst hob
      have HE := Lib.hid (Pure.restE_all HCODE.out rfl)
      go_wp2_with fail
      refine bodyPost_ret (v := .tuple #[.agg #[.int .i64 0, .int .i64 0, .int .i64 0], .int .i64 6]) (by simp [results, Try.results18, go_sem, r0, r1, r2]) rfl ⟨?_, ?_⟩
      · rw [HE.out, Pure.pick_err (by decide), Pure.pick_err (by decide), Pure.pick_err (by decide)]
      · exact ((HB.out.setCell (p := ⟨w.heap.size + 1 + 1, 0, none⟩) (by simp; omega) _).setCell (p := ⟨w.heap.size + 1 + 1, 1, none⟩) (by simp; omega) _).setCell (p := ⟨w.heap.size + 1 + 1, 2, none⟩) (by simp; omega) _
    · have hne : (o == b) = false := by simpa using hob
      have HE := Lib.hid (Pure.restE_some HCODE.out hob)
      clear hob
      go_wp2_with fail
      go_region
      go_wp2
      have q0 : (((w2.setCell ⟨w.heap.size + 1 + 1, 0, none⟩ (.int .i64 (b - o))).setCell ⟨w.heap.size + 1 + 1, 1, none⟩ (.int .i64 (p1 - f))).setCell ⟨w.heap.size + 1 + 1, 2, none⟩ (.int .i64 (p2 - f))).cell? ⟨w.heap.size + 1 + 1, 0, none⟩ = some (.int .i64 (b - o)) := by go_simp
      have q1 : (((w2.setCell ⟨w.heap.size + 1 + 1, 0, none⟩ (.int .i64 (b - o))).setCell ⟨w.heap.size + 1 + 1, 1, none⟩ (.int .i64 (p1 - f))).setCell ⟨w.heap.size + 1 + 1, 2, none⟩ (.int .i64 (p2 - f))).cell? ⟨w.heap.size + 1 + 1, 1, none⟩ = some (.int .i64 (p1 - f)) := by go_simp
      have q2 : (((w2.setCell ⟨w.heap.size + 1 + 1, 0, none⟩ (.int .i64 (b - o))).setCell ⟨w.heap.size + 1 + 1, 1, none⟩ (.int .i64 (p1 - f))).setCell ⟨w.heap.size + 1 + 1, 2, none⟩ (.int .i64 (p2 - f))).cell? ⟨w.heap.size + 1 + 1, 2, none⟩ = some (.int .i64 (p2 - f)) := by go_simp
      refine bodyPost_ret (v := .tuple #[.agg #[.int .i64 (b - o), .int .i64 (p1 - f), .int .i64 (p2 - f)], .int .i64 0]) (by simp [results, Try.results18, go_sem, q0, q1, q2]) rfl ⟨?_, ?_⟩
      · rw [HE.out, Pure.pick_zero rfl, Pure.pick_zero rfl, Pure.pick_zero rfl, HF.out, HP2.out]
      · exact (((HB.out.setCell (p := ⟨w.heap.size + 1 + 1, 0, none⟩) (by simp; omega) _).setCell (p := ⟨w.heap.size + 1 + 1, 1, none⟩) (by simp; omega) _).setCell (p := ⟨w.heap.size + 1 + 1, 2, none⟩) (by simp; omega) _).drew
  · have hne : (code != 0) = true := by simpa using h0
    have H0 := Lib.hid h0
    clear h0
    go_wp2_with fail
    refine bodyPost_ret (v := .tuple #[.agg #[.int .i64 0, .int .i64 0, .int .i64 0], .int .i64 code]) (by simp [results, Try.results18, go_sem, r0, r1, r2]) rfl ⟨?_, ?_⟩
    · rw [Pure.restE_err (by rw [HCODE.out]; exact H0.out), HCODE.out, Pure.pick_err H0.out, Pure.pick_err H0.out, Pure.pick_err H0.out]
    · exact ((HB.out.setCell (p := ⟨w.heap.size + 1 + 1, 0, none⟩) (by simp; omega) _).setCell (p := ⟨w.heap.size + 1 + 1, 1, none⟩) (by simp; omega) _).setCell (p := ⟨w.heap.size + 1 + 1, 2, none⟩) (by simp; omega) _

end Go.Proofs.Ytmpbdbfflbdppaa
