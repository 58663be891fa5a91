/-
  The contracts of Can, Rest, Likely, Bound and Find.
-/
import Derived.Test.YtjegkkpdemoldaaGreatDoorLikely
import Derived.Test.YtjegkkpdemoldaaGreatDoorFind
namespace Go.Proofs.YtjegkkpdemoldaaGreatDoor
open Go.RowKit Go.Shelf

namespace Pure
/-- v if there is no error, otherwise 0. -/
def pick (code v : Int) : Int := if code = 0 then v else 0
theorem pick_zero {code v : Int} (h : code = 0) : pick code v = v := if_pos h
theorem pick_err {code v : Int} (h : code ≠ 0) : pick code v = 0 := if_neg h
end Pure

theorem no_parts (w : World) : TermsAt w none 0 (fun _ => 0) (fun _ => 0) := fun _ h => absurd h (Nat.not_lt_zero _)

/-- What a call of the layer's top returns of a span. -/
def Pure.canE (b lo hi o f : Int) : Int := Pure.afterE b lo hi o f (Pure.okParts 0 (fun _ => 0) (fun _ => 0))

namespace Pure
theorem afterE_zero {b lo hi o f : Int} {c : Bool} (h : afterE b lo hi o f c = 0) : (1 ≤ b ∧ b ≤ 36 ∧ 0 ≤ lo ∧ lo ≤ hi ∧ hi ≤ b) ∧ (0 ≤ o ∧ o ≤ b ∧ 0 ≤ f ∧ f ≤ o) ∧ c = true ∧ some b.toNat lo hi o f = true := by
  unfold afterE at h
  by_cases h1 : first3 (err (okCargo b lo hi) 10) (err (okDraw b o f) 11) (err c 12) = 0
  · simp only [h1, if_true] at h
    obtain ⟨q1, q2, q3⟩ := first3_zero h1
    have q1 := err_zero q1 (by decide)
    have q2 := err_zero q2 (by decide)
    have q3 := err_zero q3 (by decide)
    have q4 := err_zero h (by decide)
    unfold okCargo at q1
    unfold okDraw at q2
    simp only [decide_eq_true_eq] at q1 q2
    exact ⟨by omega, q2, q3, q4⟩
  · simp only [h1, if_false] at h
end Pure

set_option maxHeartbeats 1000000 in
set_option maxRecDepth 100000 in
/-- **Can**. -/
theorem can_top (b lo hi o f : Int) (w : World) :
    Calls Tryz.prog 25 #[cargoV b lo hi, .agg #[.int .i64 o, .int .i64 f]] w fun e w' => e = .returned (.tuple #[.agg #[.int .i64 (Pure.pick (Pure.canE b lo hi o f) (Pure.fst b (Pure.nums b.toNat lo hi o f))), .int .i64 (Pure.pick (Pure.canE b lo hi o f) (Pure.lst (Pure.nums b.toNat lo hi o f)))], .int .i64 (Pure.canE b lo hi o f)]) ∧ Below w.heap.size w w' := by
  go_enter Tryz.func25, Tryz.ntmps25
  go_wp2_with fail
  obtain ⟨W1, hW1⟩ : ∃ W1, ((w.alloc (.cells #[.int .i64 b, .int .i64 lo, .int .i64 hi] 28)).alloc (.cells #[.int .i64 o, .int .i64 f] 37)).alloc (.cells #[.int .i64 0, .int .i64 0] 26) = W1 := ⟨_, rfl⟩
  have hB1 : Below w.heap.size w W1 := by rw [← hW1]; exact (((Below.refl _ _).alloc (Nat.le_refl _) _).alloc (by simp) _).alloc (by simp; omega) _
  have hsz : W1.heap.size = w.heap.size + 3 := by rw [← hW1]; simp
  have hd1 : W1.heap[w.heap.size + 1]? = some (.cells #[.int .i64 o, .int .i64 f] 37) := by rw [← hW1]; exact heap_up (heap_top _ _ (by simp)) _
  have hr1 : W1.heap[w.heap.size + 1 + 1]? = some (.cells #[.int .i64 0, .int .i64 0] 26) := by rw [← hW1]; exact heap_top _ _ (by simp)
  rw [hW1]
  have HB1 := Lib.hid hB1
  have HSZ := Lib.hid hsz
  have HD1 := Lib.hid hd1
  have HR1 := Lib.hid hr1
  clear hW1 hB1 hsz hd1 hr1
  refine (after_any b lo hi o f none 0 0 (fun _ => 0) (fun _ => 0) (by decide) _ (no_parts _)).mono ?_
  have HCE : Hid (Pure.afterE b lo hi o f (Pure.okParts 0 (fun _ => 0) (fun _ => 0)) = Pure.canE b lo hi o f) := Lib.hid rfl
  rw [HCE.out]
  obtain ⟨code, hcode⟩ : ∃ c, Pure.canE b lo hi o f = c := ⟨_, rfl⟩
  rw [hcode]
  have HCODE := Lib.hid hcode
  clear hcode
  rintro e w2 (⟨hne, rfl, hb⟩ | ⟨rfl, M, T, C, rfl, hMw, hc, hb⟩)
  · have HNE := Lib.hid hne
    have hr2 := (hb.block _ (by have := HSZ.out; omega)).trans HR1.out
    have hr3 := heap_up hr2 (.cells #[.int .i64 0, .int .i64 0, .int .i64 0, .nilFunc] 82)
    have r0 := heap_cell hr3 (j := 0) rfl
    have r1 := heap_cell hr3 (j := 1) rfl
    have f0 := heap_frozen hr3 0
    have f1 := heap_frozen hr3 1
    have hnb : (code != 0) = true := by simpa using hne
    have HB := Lib.hid (HB1.out.trans (hb.mono HB1.out.size))
    clear hne hb hr2 hr3
    go_wp2_with fail
    refine bodyPost_ret (v := .tuple #[.agg #[.int .i64 0, .int .i64 0], .int .i64 code]) (by simp [results, Tryz.results25, go_sem, r0, r1]) rfl ⟨?_, ?_⟩
    · rw [HCODE.out, Pure.pick_err HNE.out, Pure.pick_err HNE.out]
    · exact ((HB.out.alloc HB.out.size _).setCell (p := ⟨w.heap.size + 1 + 1, 0, none⟩) (by simp; omega) _).setCell (p := ⟨w.heap.size + 1 + 1, 1, none⟩) (by simp; omega) _
  · obtain ⟨q1, q2, _, q4⟩ := Pure.afterE_zero (HCE.out.trans HCODE.out)
    obtain ⟨bn, rfl⟩ : ∃ n : Nat, b = n := ⟨b.toNat, by omega⟩
    have hr2 := (hb.block _ (by have := HSZ.out; omega)).trans HR1.out
    have hd2 := (hb.block _ (by have := HSZ.out; omega)).trans HD1.out
    have hd3 := heap_up hd2 (.cells #[.int .i64 bn, .int .i64 lo, .int .i64 hi, setsV T C] 82)
    have d0 := heap_cell hd3 (j := 0) rfl
    have d1 := heap_cell hd3 (j := 1) rfl
    have HR2 := Lib.hid hr2
    have HB := Lib.hid (HB1.out.trans (hb.mono HB1.out.size))
    have HC := Lib.hid hc
    have HMW := Lib.hid hMw
    clear hb hr2 hd2 hd3 hc hMw
    go_wp2_with fail
    refine (span_any (b := bn) (by omega) q2.1 (by omega) q2.2.2.1 (by omega) _ (HC.out.alloc _)).mono ?_
    rintro e w3 ⟨rfl, hs3⟩
    have hr3 := hs3.heap (heap_up HR2.out _) (by have := HMW.out; have := HSZ.out; omega)
    have r0 := heap_cell hr3 (j := 0) rfl
    have r1 := heap_cell hr3 (j := 1) rfl
    have f0 := heap_frozen hr3 0
    have f1 := heap_frozen hr3 1
    have hB3 := below_step (HB.out.alloc HB.out.size (.cells #[.int .i64 bn, .int .i64 lo, .int .i64 hi, setsV T C] 82)) hs3 (by have := HB.out.size; simp; omega) (by have := HMW.out; have := HSZ.out; omega)
    have HB3 := Lib.hid hB3
    have HR3 := Lib.hid hr3
    clear hr3 hs3 hB3
    go_wp2_with fail
    refine bodyPost_ret (v := .tuple #[.agg #[.int .i64 (Pure.fst bn (Pure.nums bn lo hi o f)), .int .i64 (Pure.lst (Pure.nums bn lo hi o f))], .int .i64 0]) (by simp [results, Tryz.results25, go_sem, r0, r1]) rfl ⟨?_, ?_⟩
    · rw [HCODE.out, Pure.pick_zero rfl, Pure.pick_zero rfl, Int.toNat_natCast]
    · exact (HB3.out.setCell (p := ⟨w.heap.size + 1 + 1, 0, none⟩) (by simp; omega) _).setCell (p := ⟨w.heap.size + 1 + 1, 1, none⟩) (by simp; omega) _

namespace Pure
def likelyL (b lo hi o f : Int) : List Int := if canE b lo hi o f = 0 then likely b.toNat lo hi o f else []
theorem likelyL_zero {b lo hi o f : Int} (h : canE b lo hi o f = 0) : likelyL b lo hi o f = likely b.toNat lo hi o f := if_pos h
theorem likelyL_err {b lo hi o f : Int} (h : canE b lo hi o f ≠ 0) : likelyL b lo hi o f = [] := if_neg h
def restE (b lo hi o f : Int) : Int := if canE b lo hi o f = 0 then (if o = b then 6 else 0) else canE b lo hi o f
theorem restE_err {b lo hi o f : Int} (h : canE b lo hi o f ≠ 0) : restE b lo hi o f = canE b lo hi o f := if_neg h
theorem restE_all {b lo hi o f : Int} (h : canE b lo hi o f = 0) (h1 : o = b) : restE b lo hi o f = 6 := by unfold restE; rw [if_pos h, if_pos h1]
theorem restE_some {b lo hi o f : Int} (h : canE b lo hi o f = 0) (h1 : ¬ o = b) : restE b lo hi o f = 0 := by unfold restE; rw [if_pos h, if_neg h1]
theorem span_bounds {b : Nat} {lo hi o f : Int} : (0 ≤ fst b (nums b lo hi o f) ∧ fst b (nums b lo hi o f) ≤ b) ∧ (0 ≤ lst (nums b lo hi o f) ∧ lst (nums b lo hi o f) ≤ b) := by
  have hm : ∀ x ∈ nums b lo hi o f, 0 ≤ x ∧ x ≤ b := fun x hx => (mem_nums.1 hx).1
  constructor
  · unfold fst
    cases h : (nums b lo hi o f).head? with
    | none => simp <;> omega
    | some x => exact hm x (List.mem_of_mem_head? h)
  · unfold lst
    cases h : (nums b lo hi o f).getLast? with
    | none => simp
    | some x => exact hm x (List.mem_of_getLast? h)
end Pure

set_option maxHeartbeats 1000000 in
set_option maxRecDepth 100000 in
/-- **Likely**. -/
theorem likely_top (b lo hi o f : Int) (w : World) :
    Calls Tryz.prog 10 #[cargoV b lo hi, .agg #[.int .i64 o, .int .i64 f]] w fun e w' => ∃ v, e = .returned (.tuple #[v, .int .i64 (Pure.canE b lo hi o f)]) ∧ w'.ownsRow w.heap.size 3 1 v (Pure.likelyL b lo hi o f).length ((Pure.likelyL b lo hi o f).map (Value.int .i64)) ∧ Below w.heap.size w w' := by
  go_enter Tryz.func10, Tryz.ntmps10
  go_wp2_with fail
  obtain ⟨W1, hW1⟩ : ∃ W1, (w.alloc (.cells #[.int .i64 b, .int .i64 lo, .int .i64 hi] 28)).alloc (.cells #[.int .i64 o, .int .i64 f] 37) = W1 := ⟨_, rfl⟩
  have hB1 : Below w.heap.size w W1 := by rw [← hW1]; exact ((Below.refl _ _).alloc (Nat.le_refl _) _).alloc (by simp) _
  have hsz : W1.heap.size = w.heap.size + 2 := by rw [← hW1]; simp
  have hd1 : W1.heap[w.heap.size + 1]? = some (.cells #[.int .i64 o, .int .i64 f] 37) := by rw [← hW1]; exact heap_top _ _ (by simp)
  rw [hW1]
  have HB1 := Lib.hid hB1
  have HSZ := Lib.hid hsz
  have HD1 := Lib.hid hd1
  clear hW1 hB1 hsz hd1
  refine (after_any b lo hi o f none 0 0 (fun _ => 0) (fun _ => 0) (by decide) _ (no_parts _)).mono ?_
  have HCE : Hid (Pure.afterE b lo hi o f (Pure.okParts 0 (fun _ => 0) (fun _ => 0)) = Pure.canE b lo hi o f) := Lib.hid rfl
  rw [HCE.out]
  obtain ⟨code, hcode⟩ : ∃ c, Pure.canE b lo hi o f = c := ⟨_, rfl⟩
  rw [hcode]
  have HCODE := Lib.hid hcode
  clear hcode
  rintro e w2 (⟨hne, rfl, hb⟩ | ⟨rfl, M, T, C, rfl, hMw, hc, hb⟩)
  · have HNE := Lib.hid hne
    have hnb : (code != 0) = true := by simpa using hne
    have HB := Lib.hid (HB1.out.trans (hb.mono HB1.out.size))
    clear hne hb
    go_wp2_with fail
    go_ret2
    refine ⟨.slice none 0 0, by rw [HCODE.out]; rfl, ?_, HB.out.alloc HB.out.size _⟩
    rw [Pure.likelyL_err (by rw [HCODE.out]; exact HNE.out)]
    exact World.ownsRow_nil _ _ _ _
  · obtain ⟨q1, q2, _, q4⟩ := Pure.afterE_zero (HCE.out.trans HCODE.out)
    obtain ⟨bn, rfl⟩ : ∃ n : Nat, b = n := ⟨b.toNat, by omega⟩
    have hd2 := (hb.block _ (by have := HSZ.out; omega)).trans HD1.out
    have hd3 := heap_up hd2 (.cells #[.int .i64 bn, .int .i64 lo, .int .i64 hi, setsV T C] 82)
    have d0 := heap_cell hd3 (j := 0) rfl
    have d1 := heap_cell hd3 (j := 1) rfl
    have HB := Lib.hid (HB1.out.trans (hb.mono HB1.out.size))
    have HC := Lib.hid hc
    have HMW := Lib.hid hMw
    clear hb hd2 hd3 hc hMw
    go_wp2_with fail
    refine (likely_any (b := bn) (by omega) q2.1 (by omega) q2.2.2.1 (by omega) _ (HC.out.alloc _)).mono ?_
    rintro e w3 ⟨v, rfl, hown, hs3⟩
    have HOWN := Lib.hid hown
    have hB3 := below_step (HB.out.alloc HB.out.size (.cells #[.int .i64 bn, .int .i64 lo, .int .i64 hi, setsV T C] 82)) hs3 (by have := HB.out.size; simp; omega) (by have := HMW.out; have := HSZ.out; omega)
    have HB3 := Lib.hid hB3
    clear hs3 hB3 hown
    go_wp2_with fail
    go_ret2
    refine ⟨v, by rw [HCODE.out]; rfl, ?_, HB3.out⟩
    rw [Pure.likelyL_zero HCODE.out, Int.toNat_natCast]
    exact row_mono HOWN.out (by have := HB.out.size; simp; omega)

set_option maxHeartbeats 1000000 in
set_option maxRecDepth 100000 in
/-- **Rest**. -/
theorem rest_top (b lo hi o f : Int) (w : World) :
    Calls Tryz.prog 8 #[cargoV b lo hi, .agg #[.int .i64 o, .int .i64 f]] w fun e w' => e = .returned (.tuple #[.agg #[.int .i64 (Pure.pick (Pure.restE b lo hi o f) (b - o)), .int .i64 (Pure.pick (Pure.restE b lo hi o f) (Pure.fst b (Pure.nums b.toNat lo hi o f) - f)), .int .i64 (Pure.pick (Pure.restE b lo hi o f) (Pure.lst (Pure.nums b.toNat lo hi o f) - f))], .int .i64 (Pure.restE b lo hi o f)]) ∧ Below w.heap.size w w' := by
  go_enter Tryz.func8, Tryz.ntmps8
  go_wp2_with fail
  obtain ⟨W1, hW1⟩ : ∃ W1, ((w.alloc (.cells #[.int .i64 b, .int .i64 lo, .int .i64 hi] 28)).alloc (.cells #[.int .i64 o, .int .i64 f] 37)).alloc (.cells #[.int .i64 0, .int .i64 0, .int .i64 0] 28) = W1 := ⟨_, rfl⟩
  have hB1 : Below w.heap.size w W1 := by rw [← hW1]; exact (((Below.refl _ _).alloc (Nat.le_refl _) _).alloc (by simp) _).alloc (by simp; omega) _
  have hsz : W1.heap.size = w.heap.size + 3 := by rw [← hW1]; simp
  have hd1 : W1.heap[w.heap.size + 1]? = some (.cells #[.int .i64 o, .int .i64 f] 37) := by rw [← hW1]; exact heap_up (heap_top _ _ (by simp)) _
  have hr1 : W1.heap[w.heap.size + 1 + 1]? = some (.cells #[.int .i64 0, .int .i64 0, .int .i64 0] 28) := by rw [← hW1]; exact heap_top _ _ (by simp)
  rw [hW1]
  have HB1 := Lib.hid hB1
  have HSZ := Lib.hid hsz
  have HD1 := Lib.hid hd1
  have HR1 := Lib.hid hr1
  clear hW1 hB1 hsz hd1 hr1
  refine (after_any b lo hi o f none 0 0 (fun _ => 0) (fun _ => 0) (by decide) _ (no_parts _)).mono ?_
  have HCE : Hid (Pure.afterE b lo hi o f (Pure.okParts 0 (fun _ => 0) (fun _ => 0)) = Pure.canE b lo hi o f) := Lib.hid rfl
  rw [HCE.out]
  obtain ⟨code, hcode⟩ : ∃ c, Pure.canE b lo hi o f = c := ⟨_, rfl⟩
  rw [hcode]
  have HCODE := Lib.hid hcode
  clear hcode
  rintro e w2 (⟨hne, rfl, hb⟩ | ⟨rfl, M, T, C, rfl, hMw, hc, hb⟩)
  · have HNE := Lib.hid hne
    have hr2 := (hb.block _ (by have := HSZ.out; omega)).trans HR1.out
    have hr3 := heap_up hr2 (.cells #[.int .i64 0, .int .i64 0, .int .i64 0, .nilFunc] 82)
    have r0 := heap_cell hr3 (j := 0) rfl
    have r1 := heap_cell hr3 (j := 1) rfl
    have r2 := heap_cell hr3 (j := 2) rfl
    have f0 := heap_frozen hr3 0
    have f1 := heap_frozen hr3 1
    have f2 := heap_frozen hr3 2
    have hnb : (code != 0) = true := by simpa using hne
    have HB := Lib.hid (HB1.out.trans (hb.mono HB1.out.size))
    clear hne hb hr2 hr3
    go_wp2_with fail
    refine bodyPost_ret (v := .tuple #[.agg #[.int .i64 0, .int .i64 0, .int .i64 0], .int .i64 code]) (by simp [results, Tryz.results8, go_sem, r0, r1, r2]) rfl ⟨?_, ?_⟩
    · rw [Pure.restE_err (by rw [HCODE.out]; exact HNE.out), HCODE.out, Pure.pick_err HNE.out, Pure.pick_err HNE.out, Pure.pick_err HNE.out]
    · exact (((HB.out.alloc HB.out.size _).setCell (p := ⟨w.heap.size + 1 + 1, 0, none⟩) (by simp; omega) _).setCell (p := ⟨w.heap.size + 1 + 1, 1, none⟩) (by simp; omega) _).setCell (p := ⟨w.heap.size + 1 + 1, 2, none⟩) (by simp; omega) _
  · obtain ⟨q1, q2, _, q4⟩ := Pure.afterE_zero (HCE.out.trans HCODE.out)
    obtain ⟨bn, rfl⟩ : ∃ n : Nat, b = n := ⟨b.toNat, by omega⟩
    have hr2 := (hb.block _ (by have := HSZ.out; omega)).trans HR1.out
    have hd2 := (hb.block _ (by have := HSZ.out; omega)).trans HD1.out
    have hd3 := heap_up hd2 (.cells #[.int .i64 bn, .int .i64 lo, .int .i64 hi, setsV T C] 82)
    have hr3 := heap_up hr2 (.cells #[.int .i64 bn, .int .i64 lo, .int .i64 hi, setsV T C] 82)
    have d0 := heap_cell hd3 (j := 0) rfl
    have d1 := heap_cell hd3 (j := 1) rfl
    have r0 := heap_cell hr3 (j := 0) rfl
    have r1 := heap_cell hr3 (j := 1) rfl
    have r2 := heap_cell hr3 (j := 2) rfl
    have f0 := heap_frozen hr3 0
    have f1 := heap_frozen hr3 1
    have f2 := heap_frozen hr3 2
    have HD3 := Lib.hid hd3
    have HR2 := Lib.hid hr2
    have HB := Lib.hid (HB1.out.trans (hb.mono HB1.out.size))
    have HC := Lib.hid hc
    have HMW := Lib.hid hMw
    clear hb hr2 hd2 hd3 hc hMw hr3
    by_cases hob : o = bn
    · subst hob
      have HE : Hid (Pure.restE bn lo hi bn f = 6) := Lib.hid (Pure.restE_all HCODE.out rfl)
      go_wp2_with fail
      refine bodyPost_ret (v := .tuple #[.agg #[.int .i64 0, .int .i64 0, .int .i64 0], .int .i64 6]) (by simp [results, Tryz.results8, go_sem, r0, r1, r2]) rfl ⟨?_, ?_⟩
      · rw [HE.out, Pure.pick_err (by decide), Pure.pick_err (by decide), Pure.pick_err (by decide)]
      · exact (((HB.out.alloc HB.out.size _).setCell (p := ⟨w.heap.size + 1 + 1, 0, none⟩) (by simp; omega) _).setCell (p := ⟨w.heap.size + 1 + 1, 1, none⟩) (by simp; omega) _).setCell (p := ⟨w.heap.size + 1 + 1, 2, none⟩) (by simp; omega) _
    · have hne : (o == (bn : Int)) = false := by simpa using hob
      have HE : Hid (Pure.restE bn lo hi o f = 0) := Lib.hid (Pure.restE_some HCODE.out hob)
      have hg := Pure.span_bounds (b := bn) (lo := lo) (hi := hi) (o := o) (f := f)
      clear hob r0 r1 r2 f0 f1 f2
      go_wp2_with fail
      refine (span_any (b := bn) (by omega) q2.1 (by omega) q2.2.2.1 (by omega) _ (HC.out.alloc _)).mono ?_
      rintro e w3 ⟨rfl, hs3⟩
      have hh3 := hs3.heap (heap_top w2 (.cells #[.int .i64 bn, .int .i64 lo, .int .i64 hi, setsV T C] 82) rfl) (by have := HC.out.lt; omega)
      have hr3 := hs3.heap (heap_up HR2.out _) (by have := HMW.out; have := HSZ.out; omega)
      have hd4 := hs3.heap HD3.out (by have := HMW.out; have := HSZ.out; omega)
      obtain ⟨p1, hp1⟩ : ∃ x, Pure.fst bn (Pure.nums bn lo hi o f) = x := ⟨_, rfl⟩
      obtain ⟨p2, hp2⟩ : ∃ x, Pure.lst (Pure.nums bn lo hi o f) = x := ⟨_, rfl⟩
      rw [hp1, hp2] at hg ⊢
      have hh4 := heap_up hh3 (.cells #[.int .i64 p1, .int .i64 p2] 26)
      have hr4 := heap_up hr3 (.cells #[.int .i64 p1, .int .i64 p2] 26)
      have hd5 := heap_up hd4 (.cells #[.int .i64 p1, .int .i64 p2] 26)
      have s0 := heap_cell hh4 (j := 0) rfl
      have d0 := heap_cell hd5 (j := 0) rfl
      have d1 := heap_cell hd5 (j := 1) rfl
      have r0 := heap_cell hr4 (j := 0) rfl
      have r1 := heap_cell hr4 (j := 1) rfl
      have r2 := heap_cell hr4 (j := 2) rfl
      have f0 := heap_frozen hr4 0
      have f1 := heap_frozen hr4 1
      have f2 := heap_frozen hr4 2
      have hB3 := below_step (HB.out.alloc HB.out.size (.cells #[.int .i64 bn, .int .i64 lo, .int .i64 hi, setsV T C] 82)) hs3 (by have := HB.out.size; simp; omega) (by have := HMW.out; have := HSZ.out; omega)
      have HB3 := Lib.hid hB3
      have HP1 := Lib.hid hp1
      have HP2 := Lib.hid hp2
      clear hr3 hs3 hB3 hh3 hd4 hh4 hr4 hd5 hp1 hp2
      go_wp2_with fail
      refine bodyPost_ret (v := .tuple #[.agg #[.int .i64 (bn - o), .int .i64 (p1 - f), .int .i64 (p2 - f)], .int .i64 0]) (by simp [results, Tryz.results8, go_sem, r0, r1, r2]) rfl ⟨?_, ?_⟩
      · rw [HE.out, Pure.pick_zero rfl, Pure.pick_zero rfl, Pure.pick_zero rfl, Int.toNat_natCast, HP1.out, HP2.out]
      · exact (((HB3.out.alloc HB3.out.size _).setCell (p := ⟨w.heap.size + 1 + 1, 0, none⟩) (by simp; omega) _).setCell (p := ⟨w.heap.size + 1 + 1, 1, none⟩) (by simp; omega) _).setCell (p := ⟨w.heap.size + 1 + 1, 2, none⟩) (by simp; omega) _

end Go.Proofs.YtjegkkpdemoldaaGreatDoor
