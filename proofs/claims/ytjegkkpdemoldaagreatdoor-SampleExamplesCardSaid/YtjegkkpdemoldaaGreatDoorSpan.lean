/-
  The contract of span: the least and the greatest number that can be.
-/
import Derived.Test.YtjegkkpdemoldaaGreatDoorLoop
namespace Go.Proofs.YtjegkkpdemoldaaGreatDoor
open Go.RowKit Go.Shelf
attribute [local go_sem] Oper.semAt_some

namespace Pure
theorem ints_rising : ∀ n : Nat, (ints n).Pairwise (· < ·)
  | 0 => List.Pairwise.nil
  | n + 1 => by
    rw [ints_succ, List.pairwise_append]
    refine ⟨ints_rising n, List.pairwise_singleton _ _, ?_⟩
    intro x hx y hy
    have h1 := mem_ints.1 hx
    have h2 : y = n := by simpa using hy
    omega
theorem nums_rising (b : Nat) (lo hi o f : Int) : (nums b lo hi o f).Pairwise (· < ·) := (ints_rising (b + 1)).filter _
/-- The first of some numbers, the last one. -/
def fst (b : Int) (l : List Int) : Int := l.head?.getD b
def lst (l : List Int) : Int := l.getLast?.getD 0
theorem fst_snoc {b x : Int} {l : List Int} (hl : ∀ y ∈ l, y < x) (hb : x ≤ b) : fst b (l ++ [x]) = min (fst b l) x := by
  unfold fst
  cases l with
  | nil => simp; omega
  | cons y l =>
    have := hl y (by simp)
    simp
    omega
theorem lst_snoc {x : Int} {l : List Int} (hl : ∀ y ∈ l, y < x) (hx : 0 ≤ x) : lst (l ++ [x]) = max (lst l) x := by
  unfold lst
  simp
  cases h : l.getLast? with
  | none => simp; omega
  | some y =>
    have := hl y (List.mem_of_getLast? h)
    simp
    omega
theorem prefix_less {pre xs : List Int} {x : Int} (h : pre ++ [x] <+: xs) (hx : xs.Pairwise (· < ·)) : ∀ y ∈ pre, y < x := by
  obtain ⟨t, rfl⟩ := h
  rw [List.pairwise_append] at hx
  have h1 := List.pairwise_append.1 hx.1
  exact fun y hy => h1.2.2 y hy x (by simp)
end Pure

set_option maxRecDepth 100000 in
set_option maxHeartbeats 4000000 in
theorem span_in (n b M T C : Nat) (lo hi o f : Int) (hb : b ≤ 36) (ho0 : 0 ≤ o) (ho : o ≤ 36) (hf0 : 0 ≤ f) (hf : f ≤ 36) (w : World) (hw : Cnt w M T C) :
    CallsIn Fence.wide (n + 5) Tryz.prog 41 #[holdV b lo hi T C, .agg #[.int .i64 o, .int .i64 f]] w fun e W' =>
      e = .returned (.agg #[.int .i64 (Pure.fst b (Pure.nums b lo hi o f)), .int .i64 (Pure.lst (Pure.nums b lo hi o f))]) ∧ Step M w W' := by
  have HW := Lib.hid hw
  have HL := Lib.hid hw.lt
  clear hw
  refine callsIn_of_wp_marks Tryz.func41 rfl trivial ?_ rfl
  simp only [Tryz.ntmps41, List.size_toArray, List.length_cons, List.length_nil, Nat.reduceAdd, Nat.reduceSub, Array.replicate_succ, Array.replicate_zero, List.push_toArray, List.append_toArray, List.nil_append, List.cons_append]
  gi_wp2_with (refine ⟨trivial, ?_⟩; gi_at_call 48; refine (callsIn_wide.2 (numbers_any b lo hi o f T C _)).mono ?_; rintro e w' ⟨rfl, rfl⟩)
  obtain ⟨W1, hW1⟩ : ∃ W1, (((((w.alloc (.cells #[.int .i64 b, .int .i64 lo, .int .i64 hi, setsV T C] 82)).alloc (.cells #[.int .i64 o, .int .i64 f] 37)).alloc (.cells #[.int .i64 0, .int .i64 0] 26)).alloc (.cells #[.int .i64 b, .int .i64 0] 26)).alloc (.cells #[.int .i64 b, .int .i64 lo, .int .i64 hi, setsV T C] 82)).alloc (.cells #[.int .i64 o, .int .i64 f] 37) = W1 := ⟨_, rfl⟩
  have hsz : W1.heap.size = w.heap.size + 6 := by rw [← hW1]; simp
  have hS1 : Step M w W1 := by rw [← hW1]; exact ((((((Step.refl HW.out.memo).alloc _).alloc _).alloc _).alloc _).alloc _).alloc _
  have hr1 : W1.heap[w.heap.size + 1 + 1]? = some (.cells #[.int .i64 0, .int .i64 0] 26) := by
    rw [← hW1]; exact heap_up (heap_up (heap_up (heap_top _ _ (by simp)) _) _) _
  have hs1 : W1.heap[w.heap.size + 1 + 1 + 1]? = some (.cells #[.int .i64 b, .int .i64 0] 26) := by
    rw [← hW1]; exact heap_up (heap_up (heap_top _ _ (by simp)) _) _
  have hh1 : W1.heap[w.heap.size + 1 + 1 + 1 + 1]? = some (.cells #[.int .i64 b, .int .i64 lo, .int .i64 hi, setsV T C] 82) := by
    rw [← hW1]; exact heap_up (heap_top _ _ (by simp)) _
  have hd1 : W1.heap[w.heap.size + 1 + 1 + 1 + 1 + 1]? = some (.cells #[.int .i64 o, .int .i64 f] 37) := by
    rw [← hW1]; exact heap_top _ _ (by simp)
  rw [hW1]
  have HSZ := Lib.hid hsz
  have HS1 := Lib.hid hS1
  clear hsz hW1 hS1
  refine wpIn_over_numbers (n + 1) (b := b) (M := M) (T := T) (C := C) (lo := lo) (hi := hi) (o := o) (f := f) hb ho0 ho hf0 hf (HW.out.step HS1.out) hh1 hd1 rfl rfl
    (fun pre V => V.heap[w.heap.size + 1 + 1 + 1]? = some (.cells #[.int .i64 (Pure.fst b pre), .int .i64 (Pure.lst pre)] 26) ∧ V.heap[w.heap.size + 1 + 1]? = some (.cells #[.int .i64 0, .int .i64 0] 26) ∧ Step M w V)
    (OwnFrom.and (heap_own' (by have := HSZ.out; omega)) (OwnFrom.and (heap_own (by have := HSZ.out; omega)) (step_own (by have := HSZ.out; omega) HL.out.1)))
    (fun s A B _ hs hst => ⟨hst.heap hs.1 (by have := HL.out.1; omega), hst.heap hs.2.1 (by have := HL.out.1; omega), hs.2.2.trans hst⟩) ⟨hs1, hr1, HS1.out⟩
    (fun x a' => a' = { tmps := #[holdV b lo hi T C, .agg #[.int .i64 o, .int .i64 f], .pointer (some ⟨w.heap.size, 0, none⟩), .pointer (some ⟨w.heap.size + 1, 0, none⟩), .pointer (some ⟨w.heap.size + 1 + 1, 0, none⟩), .pointer (some ⟨w.heap.size + 1 + 1 + 1, 0, none⟩), .int .i64 x,
      .pointer (some ⟨w.heap.size, 0, none⟩), .pointer (some ⟨w.heap.size, 0, none⟩), .int .i64 b, .agg #[.int .i64 b, .int .i64 0], holdV b lo hi T C, .agg #[.int .i64 o, .int .i64 f],
      .func (.func 78) #[] #[.pointer (some ⟨w.heap.size + 1 + 1 + 1 + 1, 0, none⟩), .pointer (some ⟨w.heap.size + 1 + 1 + 1 + 1 + 1, 0, none⟩)], .int .i64 x, undef, undef, undef, undef, undef, undef, undef, undef, undef, undef, undef], defers := [] })
    ?assign ?body ?done
  case assign =>
    intro l x W K hK
    gi_wp2
    rfl
  case body =>
    rintro l pre x a' V hl hpx rfl hc _ _ ⟨hsp, hr, hst⟩
    have hlt := Pure.prefix_less hpx (Pure.nums_rising b lo hi o f)
    have hxm := Pure.mem_nums.1 (Pure.prefix_mem hpx)
    have hf1 := Pure.fst_snoc (b := b) hlt (by omega)
    have hl1 := Pure.lst_snoc hlt hxm.1.1
    have HF1 := Lib.hid hf1
    have HL1 := Lib.hid hl1
    have c0 := heap_cell hsp (j := 0) rfl
    have c1 := heap_cell hsp (j := 1) rfl
    have f0 := heap_frozen hsp 0
    have f1 := heap_frozen hsp 1
    have HSP := Lib.hid hsp
    have HR := Lib.hid hr
    have HST := Lib.hid hst
    clear hsp hr hst hlt hxm hf1 hl1 hpx hc
    gi_wp2
    all_goals
      have h1 := HL.out
      have h2 := HSZ.out
      refine ⟨(keepsFrom_setCell _ _ _).trans (keepsFrom_setCell _ _ _), (KeepNum.setCell _ (by simp; omega) (by simp) (by simp <;> omega) (by simp; omega) (by simp; omega) (by simp; omega) _).trans (KeepNum.setCell _ (by simp; omega) (by simp) (by simp <;> omega) (by simp; omega) (by simp; omega) (by simp; omega) _), ?_,
        (Below.heap_setCell _ _ _ _ (by simp)).trans ((Below.heap_setCell _ _ _ _ (by simp)).trans HR.out), (HST.out.setCell (p := ⟨w.heap.size + 1 + 1 + 1, 0, none⟩) (by simp; omega) h1.1 _).setCell (p := ⟨w.heap.size + 1 + 1 + 1, 1, none⟩) (by simp; omega) h1.1 _⟩
      rw [HF1.out, HL1.out]
      refine (heap_set (heap_set HSP.out 0 _) 1 _).trans ?_
      simp <;> omega
  case done =>
    rintro D V hD hc ⟨hsp, hr, hst⟩ hK
    have c0 := heap_cell hsp (j := 0) rfl
    have c1 := heap_cell hsp (j := 1) rfl
    have e0 := heap_cell hr (j := 0) rfl
    have e1 := heap_cell hr (j := 1) rfl
    have r0 := heap_frozen hr 0
    have r1 := heap_frozen hr 1
    have HSP := Lib.hid hsp
    have HR := Lib.hid hr
    have HST := Lib.hid hst
    have HK := Lib.hid hK
    clear hsp hr hst hK hc
    gi_wp2
    have hK' := ((KeepsOthers.setCell V ⟨w.heap.size + 1 + 1, 0, none⟩ (.int .i64 (Pure.fst b (Pure.nums b lo hi o f)))).trans (KeepsOthers.setCell _ ⟨w.heap.size + 1 + 1, 1, none⟩ (.int .i64 (Pure.lst (Pure.nums b lo hi o f))))).same D _ HK.out rfl
    refine ⟨by simp, .inl ⟨_, _, rfl, run_takeDeferred hK', ?_⟩⟩
    have hq := heap_set (heap_set HR.out 0 (.int .i64 (Pure.fst b (Pure.nums b lo hi o f)))) 1 (.int .i64 (Pure.lst (Pure.nums b lo hi o f)))
    have hq2 := (World.putObj_heap_other (o := .deferred none) (show w.heap.size + 1 + 1 ≠ D by have := HSZ.out; omega)).trans hq
    have q0 := heap_cell hq2 (j := 0) rfl
    have q1 := heap_cell hq2 (j := 1) rfl
    refine ⟨.agg #[.int .i64 (Pure.fst b (Pure.nums b lo hi o f)), .int .i64 (Pure.lst (Pure.nums b lo hi o f))], ?_, ⟨rfl, ((HST.out.setCell (p := ⟨w.heap.size + 1 + 1, 0, none⟩) (by simp; omega) HL.out.1 _).setCell (p := ⟨w.heap.size + 1 + 1, 1, none⟩) (by simp; omega) HL.out.1 _).put (by have := HSZ.out; omega) HL.out.1 hK' _ rfl⟩⟩
    simp at q0 q1
    simp [results, Tryz.f41, go_sem, q0, q1]

/-- **span**. -/
theorem span_any {b M T C : Nat} {lo hi o f : Int} (hb : b ≤ 36) (ho0 : 0 ≤ o) (ho : o ≤ 36) (hf0 : 0 ≤ f) (hf : f ≤ 36) (w : World) (hw : Cnt w M T C) :
    Calls Tryz.prog 41 #[holdV b lo hi T C, .agg #[.int .i64 o, .int .i64 f]] w fun e w' =>
      e = .returned (.agg #[.int .i64 (Pure.fst b (Pure.nums b lo hi o f)), .int .i64 (Pure.lst (Pure.nums b lo hi o f))]) ∧ Step M w w' :=
  callsIn_wide.1 (span_in 0 b M T C lo hi o f hb ho0 ho hf0 hf w hw)

end Go.Proofs.YtjegkkpdemoldaaGreatDoor
