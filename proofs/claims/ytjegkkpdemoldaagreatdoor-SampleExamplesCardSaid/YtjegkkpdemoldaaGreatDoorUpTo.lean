/-
  The iterator upTo, and the first of its numbers that is as it is asked for.
  The contract of can: whether a number of dirty bags can be after a draw.
  Plain mathematics: of some numbers those that are worth most, the last one that is as it is asked for.
-/
import Derived.Test.YtjegkkpdemoldaaGreatDoorErrs
import Derived.Test.YtjegkkpdemoldaaGreatDoorSeq
import Derived.Test.YtjegkkpdemoldaaGreatDoorHold

namespace Go.Proofs.YtjegkkpdemoldaaGreatDoor
open Go.RowKit Go.Shelf
attribute [local go_sem] Oper.semAt_some

namespace Pure
/-- The first n numbers from 0 on. -/
def ints (n : Nat) : List Int := (List.range n).map (fun k : Nat => (k : Int))
theorem ints_succ (n : Nat) : ints (n + 1) = ints n ++ [(n : Int)] := by simp [ints, List.range_succ]
theorem ints_length (n : Nat) : (ints n).length = n := by simp [ints]
theorem ints_prefix {n : Nat} : ∀ {m : Nat}, n ≤ m → ints n <+: ints m
  | 0, h => by obtain rfl : n = 0 := by omega
               exact List.prefix_refl _
  | m + 1, h => by
    by_cases e : n = m + 1
    · rw [e]; exact List.prefix_refl _
    · rw [ints_succ]; exact (ints_prefix (by omega)).trans (List.prefix_append _ _)
theorem mem_ints {n : Nat} {x : Int} : x ∈ ints n ↔ 0 ≤ x ∧ x < n := by
  unfold ints
  rw [List.mem_map]
  constructor
  · rintro ⟨k, hk, rfl⟩
    have := List.mem_range.1 hk
    omega
  · intro h
    exact ⟨x.toNat, List.mem_range.2 (by omega), by omega⟩
theorem prefix_mem {α : Type} {pre xs : List α} {x : α} (h : pre ++ [x] <+: xs) : x ∈ xs := h.subset (by simp)
theorem any_snoc {α : Type} (p : α → Bool) (l : List α) (x : α) : (l ++ [x]).any p = (l.any p || p x) := by simp
theorem none_of_any {α : Type} {p : α → Bool} {l : List α} (h : l.any p = false) : l.find? p = none := by
  rw [List.find?_eq_none]
  intro x hx hp
  rw [List.any_eq_false] at h
  exact h x hx hp
theorem hit_of {α : Type} {p : α → Bool} {xs ini : List α} {x : α} (h : ini ++ [x] <+: xs) (h1 : ini.any p = false) (h2 : p x = true) : xs.find? p = some x ∧ xs.any p = true := by
  obtain ⟨t, rfl⟩ := h
  constructor
  · rw [List.append_assoc, List.find?_append, none_of_any h1]
    simp [h2]
  · simp [h2]
end Pure

theorem upTo_any (n : Int) (w : World) : Calls Tryz.prog 74 #[.int .i64 n] w fun e w' =>
    e = .returned (.func (.func 93) #[] #[.pointer (some ⟨w.heap.size, 0, none⟩)]) ∧ w' = w.alloc (.cells #[.int .i64 n] 3) := by
  go_enter Tryz.func74, Tryz.ntmps74
  go_wp2_with fail
  go_ret
  exact ⟨rfl, rfl⟩

set_option maxRecDepth 100000 in
set_option maxHeartbeats 2000000 in
/-- **upTo's iterator**: the numbers from 0 to b. -/
theorem upTo_runs (m B : Nat) (b : Nat) (hb : b ≤ 1000) (w : World) (hB : B < w.heap.size) (hc : w.cell? ⟨B, 0, none⟩ = some (.int .i64 b)) :
    SeqRuns Fence.wide (m + 1) Tryz.prog 93 #[.pointer (some ⟨B, 0, none⟩)] (fun x : Int => #[Value.int .i64 x]) (fun _ _ => True) (fun _ _ => False) (Pure.ints (b + 1)) w := fun l J Jx W hW _ _ _ _ hY h0 => by
  have hc' := (hW.cell (p := ⟨B, 0, none⟩) hB).trans hc
  refine callsIn_of_wp Tryz.func93 rfl trivial ?_ rfl
  simp only [Tryz.ntmps93, List.size_toArray, List.length_cons, List.length_nil, Nat.reduceAdd, Nat.reduceSub, Array.replicate_succ, Array.replicate_zero, List.push_toArray, List.append_toArray, List.nil_append, List.cons_append]
  gi_wp2
  gi_loopw [3, 6] (fun _ i wr => ∃ k : Nat, k ≤ b + 1 ∧ i = .int .i64 k ∧ J (Pure.ints k) wr) (fun _ i _ => b + 1 - (intOf i).toNat)
  case atStart => exact ⟨0, Nat.zero_le _, rfl, h0⟩
  case round =>
    obtain ⟨k, hk, rfl, hJs⟩ := hrel
    by_cases hlt : k < b + 1
    · obtain ⟨fn, tmps, assign, body, hy, hR⟩ := hY _ (k : Int) wr (by rw [← Pure.ints_succ]; exact Pure.ints_prefix (by omega)) hJs
      gi_wp2
      refine hR.mono ?_
      rintro e W3 (⟨rfl, hJ3, _⟩ | ⟨rfl, hJx3, _⟩)
      · gi_wp2
        go_roundw
        case rel => exact ⟨k + 1, by omega, by go_num, by rw [Pure.ints_succ]; exact hJ3⟩
        case measure => simp [intOf]; omega
      · gi_wp2
        refine bodyPost_ret (results_none rfl _ _ _) rfl ?_
        exact ⟨⟨_, rfl⟩, .inr ⟨_, by rw [← Pure.ints_succ]; exact Pure.ints_prefix (by omega), hJx3⟩⟩
    · obtain rfl : k = b + 1 := by omega
      gi_wp2
      go_end0
      exact ⟨⟨_, rfl⟩, .inl hJs⟩

theorem step_own {β : Type} {M B : Nat} {w : World} (hB : w.heap.size ≤ B) (hM : M < w.heap.size) : OwnFrom B (fun (_ : β) W => Step M w W) := fun _ A C row hs hg hr =>
  ⟨⟨hg.os.trans hs.grown.os, hg.tape.trans hs.grown.tape, hg.output.trans hs.grown.output, Nat.le_trans hs.grown.size hg.size,
    fun i hi hne => (hg.block i (Nat.lt_of_lt_of_le hi hs.grown.size) (fun e => by have := (hr i e.symm).1; omega)).trans (hs.grown.block i hi hne)⟩,
   hs.memo.kept (hg.block M hs.memo.lt (fun e => by have := (hr M e.symm).1; omega))⟩
theorem Step.put {M : Nat} {w W : World} (h : Step M w W) {D : Nat} {o : Obj} (hD : w.heap.size ≤ D) (hM : M < w.heap.size) (ho : W.heap[D]? = some o) (o' : Obj) (hc : o.isCells = false) : Step M w (W.putObj D o') :=
  step_own (β := Unit) (B := w.heap.size) (Nat.le_refl _) hM () W _ (some D) h (grownBy_putObj' W D o') (fun r e => by cases e; exact ⟨hD, o, ho, hc⟩)
theorem Step.keeps {M B : Nat} {W W' : World} (h : Step M W W') (hM : M < B) : KeepsFrom B W W' := KeepsFrom.of_grownBy h.grown (fun j e => by cases e; exact hM)
theorem memo_obj {W : World} {M : Nat} (h : Memo W M) : ∃ o : Obj, W.heap[M]? = some o ∧ o.isCells = false := by
  obtain ⟨es, clock, hb, _⟩ := h
  exact ⟨_, hb, rfl⟩
theorem Step.boxed {M B : Nat} {W W' : World} {t : TypeId} {v : Value} (h : Step M W W') (hM : Memo W M) (hb : Boxed W B t v) : Boxed W' B t v :=
  boxed_turn hb h.grown (fun r e => by cases e; exact memo_obj hM)

set_option maxRecDepth 100000 in
set_option maxHeartbeats 4000000 in
theorem firstInt_in (n B b : Nat) (hb : b ≤ 1000) {M : Nat} (g : Nat) (caps : Array Value) (p : Int → Bool) (w : World) (hM : Memo w M)
    (hB : B < w.heap.size) (hc : w.cell? ⟨B, 0, none⟩ = some (.int .i64 b)) (hBM : B ≠ M)
    (hg : ∀ (args : Array Value) (w : World), (callFunc g args).run Tryz.prog w = .ok (.enter g args) w)
    (his : ∀ W, Step M w W → ∀ x : Int, 0 ≤ x → x ≤ b → Calls Tryz.prog g (#[.int .i64 x] ++ caps) W fun e W' => e = .returned (.bool (p x)) ∧ Step M W W') :
    CallsIn Fence.wide (n + 3) Tryz.prog 73 #[.func (.func 93) #[] #[.pointer (some ⟨B, 0, none⟩)], .func (.func g) #[] caps] w fun e W' =>
      e = .returned (.tuple #[.int .i64 (((Pure.ints (b + 1)).find? p).getD 0), .bool ((Pure.ints (b + 1)).any p)]) ∧ Step M w W' := by
  refine callsIn_of_wp_marks Tryz.func73 rfl trivial ?_ rfl
  simp only [Tryz.ntmps73, List.size_toArray, List.length_cons, List.length_nil, Nat.reduceAdd, Nat.reduceSub, Array.replicate_succ, Array.replicate_zero, List.push_toArray, List.append_toArray, List.nil_append, List.cons_append]
  have HM := Lib.hid hM
  have HB := Lib.hid hB
  have HC := Lib.hid hc
  have HIS := Lib.hid his
  have HMl := Lib.hid hM.lt
  clear hM hB hc his
  gi_wp2
  obtain ⟨w1, hw1⟩ : ∃ w1, ((w.alloc (.cells #[.func (.func g) #[] caps] 137)).alloc (.cells #[.int .i64 0] 3)).alloc (.cells #[.bool false] 4) = w1 := ⟨_, rfl⟩
  have hsz : w1.heap.size = w.heap.size + 3 := by rw [← hw1]; simp
  have hS0 : Step M w w1 := by rw [← hw1]; exact (((Step.refl HM.out).alloc _).alloc _).alloc _
  have b0 : Boxed w1 w.heap.size 137 (.func (.func g) #[] caps) := by rw [← hw1]; exact ((Boxed.new w _ _).alloc _).alloc _
  have b1 : Boxed w1 (w.heap.size + 1) 3 (.int .i64 0) := by rw [← hw1]; have h := Boxed.new (w.alloc (.cells #[.func (.func g) #[] caps] 137)) 3 (.int .i64 0); rw [World.size_alloc] at h; exact h.alloc _
  have b2 : Boxed w1 (w.heap.size + 1 + 1) 4 (.bool false) := by rw [← hw1]; have h := Boxed.new ((w.alloc (.cells #[.func (.func g) #[] caps] 137)).alloc (.cells #[.int .i64 0] 3)) 4 (.bool false); rw [World.size_alloc, World.size_alloc] at h; exact h
  rw [hw1]
  have HSZ := Lib.hid hsz
  clear hsz hw1
  refine wpIn_loop_runs (n := n + 3) rfl (by omega) (gf := 93) (lb := #[.pointer (some ⟨B, 0, none⟩)]) rfl trivial (enters_of Tryz.func93 (by kernel_rfl) rfl)
    (upTo_runs (n + 1) B b hb w1 (by have := HB.out; have := HSZ.out; omega) (hS0.cell HC.out hBM)) (Below.refl _ _) (fun _ => rfl) (fun _ _ => trivial) (fun _ _ _ _ _ _ => trivial) (fun _ _ h => h.elim)
    (fun pre W => (pre.any p = false ∧ Boxed W w.heap.size 137 (.func (.func g) #[] caps) ∧ Boxed W (w.heap.size + 1) 3 (.int .i64 0) ∧ Boxed W (w.heap.size + 1 + 1) 4 (.bool false)) ∧ Step M w W)
    (fun c pre W => (c = .ret ∧ ∃ ini x, pre = ini ++ [x] ∧ ini.any p = false ∧ p x = true ∧ Boxed W (w.heap.size + 1) 3 (.int .i64 x) ∧ Boxed W (w.heap.size + 1 + 1) 4 (.bool true)) ∧ Step M w W)
    (OwnFrom.and (Own.from (fun s A B row hs hg hr => ⟨hs.1, boxed_turn hs.2.1 hg hr, boxed_turn hs.2.2.1 hg hr, boxed_turn hs.2.2.2 hg hr⟩) _) (step_own (by have := HSZ.out; omega) HMl.out))
    (fun c => OwnFrom.and (Own.from (fun s A B row hs hg hr => by obtain ⟨hc, ini, x, e1, e2, e3, e4, e5⟩ := hs; exact ⟨hc, ini, x, e1, e2, e3, boxed_turn e4 hg hr, boxed_turn e5 hg hr⟩) _) (step_own (by have := HSZ.out; omega) HMl.out))
    (fun _ _ _ _ h => h.elim) ⟨⟨rfl, b0, b1, b2⟩, hS0⟩
    (fun x a' _ => a' = { tmps := #[.func (.func 93) #[] #[.pointer (some ⟨B, 0, none⟩)], .func (.func g) #[] caps, undef, .pointer (some ⟨w.heap.size, 0, none⟩), .pointer (some ⟨w.heap.size + 1, 0, none⟩), .pointer (some ⟨w.heap.size + 1 + 1, 0, none⟩), .int .i64 x, undef, .func (.func 93) #[] #[.pointer (some ⟨B, 0, none⟩)], .int .i64 x, undef, undef, undef, undef, undef], defers := [] })
    (fun _ _ _ _ _ _ hs _ _ => hs) ?assign ?body ?done ?stop
  case assign =>
    intro l pre x W K hi hK
    gi_wp2
    exact hK _ _ (KeepsFrom.refl _ _) trivial hi rfl
  case body =>
    rintro l pre x a' W _ _ ⟨⟨hp, hb0, hb1, hb2⟩, hS⟩ rfl hpx
    have hx := Pure.mem_ints.1 (Pure.prefix_mem hpx)
    have hc0 := hb0.cell
    have HP := Lib.hid hp
    have HB1 := Lib.hid hb1
    have HB2 := Lib.hid hb2
    have HB0 := Lib.hid hb0
    have HS := Lib.hid hS
    have HCALL := Lib.hid (HIS.out W hS x hx.1 (by omega))
    clear hp hb0 hb1 hb2 hS hpx hx
    cases hpx : p x
    · have hI' : (pre ++ [x]).any p = false := by rw [Pure.any_snoc, HP.out, hpx]; rfl
      have HI' := Lib.hid hI'
      rw [hpx] at HCALL
      clear hI' hpx
      gi_wp2_with (refine ⟨trivial, ?_⟩; refine (CallsIn.inRound l (callsIn_wide.2 HCALL.out)).mono ?_; rintro e w' ⟨rfl, hs'⟩)
      exact ⟨hs'.keeps (by have := HSZ.out; have := HMl.out; omega), trivial, ⟨HI'.out, hs'.boxed HS.out.memo HB0.out, hs'.boxed HS.out.memo HB1.out, hs'.boxed HS.out.memo HB2.out⟩, HS.out.trans hs'⟩
    · have HPX := Lib.hid hpx
      rw [hpx] at HCALL
      clear hpx
      gi_wp2_with (refine ⟨trivial, ?_⟩; refine (CallsIn.inRound l (callsIn_wide.2 HCALL.out)).mono ?_; rintro e w' ⟨rfl, hs'⟩; have hbb1 := hs'.boxed HS.out.memo HB1.out; have hbb2 := hs'.boxed HS.out.memo HB2.out; have hf1 := hbb1.frozen; have hf2 := hbb2.frozen; have hc1 := hbb1.cell; have hc2 := (hbb2.other (by omega) (.int .i64 x) : Boxed (w'.setCell ⟨w.heap.size + 1, 0, none⟩ (.int .i64 x)) _ _ _).cell; have HBB1 := Lib.hid hbb1; have HBB2 := Lib.hid hbb2; have HS' := Lib.hid hs'; clear hbb1 hbb2 hs')
      have k1 : Boxed (w'.setCell ⟨w.heap.size + 1, 0, none⟩ (.int .i64 x)) (w.heap.size + 1 + 1) 4 (.bool false) := HBB2.out.other (by omega) _
      exact ⟨(HS'.out.keeps (by have := HSZ.out; have := HMl.out; omega)).trans (((KeepsOthers.setCell _ _ _).trans (KeepsOthers.setCell _ _ _)).from _), trivial, ⟨rfl, pre, x, rfl, HP.out, HPX.out, (HBB1.out.set _).other (by omega) _, k1.set _⟩,
        ((HS.out.trans HS'.out).setCell (p := ⟨w.heap.size + 1, 0, none⟩) (by simp) HMl.out _).setCell (p := ⟨w.heap.size + 1 + 1, 0, none⟩) (by simp; omega) HMl.out _⟩
  case done =>
    rintro D W hD ⟨⟨hp, hb0, hb1, hb2⟩, hS⟩ hK
    have hf1 := hb1.frozen
    have hf2 := hb2.frozen
    have hc1 := hb1.cell
    have hc2 := (hb2.other (by omega) (.int .i64 0) : Boxed (W.setCell ⟨w.heap.size + 1, 0, none⟩ (.int .i64 0)) _ _ _).cell
    have HP := Lib.hid hp
    have HB1 := Lib.hid hb1
    have HB2 := Lib.hid hb2
    have HS := Lib.hid hS
    have HK := Lib.hid hK
    have HD := Lib.hid hD
    clear hp hb0 hb1 hb2 hS hK hD
    gi_wp2
    have hK' := ((KeepsOthers.setCell W ⟨w.heap.size + 1, 0, none⟩ (.int .i64 0)).trans (KeepsOthers.setCell _ ⟨w.heap.size + 1 + 1, 0, none⟩ (.bool false))).same D _ HK.out rfl
    refine ⟨by simp, .inl ⟨_, _, rfl, run_takeDeferred hK', ?_⟩⟩
    have k2 : Boxed (W.setCell ⟨w.heap.size + 1, 0, none⟩ (.int .i64 0)) (w.heap.size + 1 + 1) 4 (.bool false) := HB2.out.other (by omega) _
    have k1 : Boxed ((W.setCell ⟨w.heap.size + 1, 0, none⟩ (.int .i64 0)).setCell ⟨w.heap.size + 1 + 1, 0, none⟩ (.bool false)) (w.heap.size + 1) 3 (.int .i64 0) := (HB1.out.set (.int .i64 0)).other (by omega) (.bool false)
    have r1 := (boxed_turn k1 (grownBy_putObj' _ D (.deferred none)) (fun r e => by cases e; exact ⟨_, hK', rfl⟩)).cell
    have r2 := (boxed_turn (k2.set (.bool false)) (grownBy_putObj' _ D (.deferred none)) (fun r e => by cases e; exact ⟨_, hK', rfl⟩)).cell
    refine ⟨.tuple #[.int .i64 0, .bool false], ?_, ⟨?_, ((HS.out.setCell (p := ⟨w.heap.size + 1, 0, none⟩) (by simp) HMl.out _).setCell (p := ⟨w.heap.size + 1 + 1, 0, none⟩) (by simp; omega) HMl.out _).put (by have := HD.out; have := HSZ.out; omega) HMl.out hK' _ rfl⟩⟩
    · simp [results, Tryz.f73, go_sem, r1, r2]
    · rw [Pure.none_of_any HP.out, HP.out]; rfl
  case stop =>
    rintro D c pre W hD hpre ⟨⟨rfl, ini, x, rfl, e2, e3, hb1, hb2⟩, hS⟩ hK
    gi_wp2
    refine ⟨by simp, .inl ⟨_, _, rfl, run_takeDeferred hK, ?_⟩⟩
    have r1 := (boxed_turn hb1 (grownBy_putObj' _ D (.deferred none)) (fun r e => by cases e; exact ⟨_, hK, rfl⟩)).cell
    have r2 := (boxed_turn hb2 (grownBy_putObj' _ D (.deferred none)) (fun r e => by cases e; exact ⟨_, hK, rfl⟩)).cell
    refine ⟨.tuple #[.int .i64 x, .bool true], ?_, ⟨?_, hS.put (by have := HSZ.out; omega) HMl.out hK _ rfl⟩⟩
    · simp [results, Tryz.f73, go_sem, r1, r2]
    · rw [(Pure.hit_of hpre e2 e3).1, (Pure.hit_of hpre e2 e3).2]; rfl

end Go.Proofs.YtjegkkpdemoldaaGreatDoor

namespace Go.Proofs.YtjegkkpdemoldaaGreatDoor
open Go.RowKit

namespace Pure
/-- Whether a number of dirty bags can be after a draw. -/
def okCan (b lo hi o f x : Int) : Bool := (decide (lo ≤ x) && decide (x ≤ hi)) && decide (0 < ways b x o f)
/-- All numbers of dirty bags that can be after a draw. -/
def nums (b : Nat) (lo hi o f : Int) : List Int := (ints (b + 1)).filter (okCan b lo hi o f)
theorem mem_nums {b : Nat} {lo hi o f x : Int} : x ∈ nums b lo hi o f ↔ (0 ≤ x ∧ x ≤ b) ∧ okCan b lo hi o f x = true := by
  unfold nums
  rw [List.mem_filter, mem_ints]
  constructor
  · rintro ⟨h1, h2⟩
    exact ⟨⟨h1.1, by omega⟩, h2⟩
  · rintro ⟨h1, h2⟩
    exact ⟨⟨h1.1, by omega⟩, h2⟩
end Pure

set_option maxHeartbeats 1000000 in
set_option maxRecDepth 100000 in
/-- **can**. -/
theorem can_any {M T C : Nat} (b lo hi x o f : Int) (hb0 : 0 ≤ b) (hb : b ≤ 36) (hx0 : 0 ≤ x) (hx : x ≤ 36) (ho0 : 0 ≤ o) (ho : o ≤ 36) (hf0 : 0 ≤ f) (hf : f ≤ 36) (w : World) (hw : Cnt w M T C) :
    Calls Tryz.prog 79 #[holdV b lo hi T C, .int .i64 x, .agg #[.int .i64 o, .int .i64 f]] w fun e w' => e = .returned (.bool (Pure.okCan b lo hi o f x)) ∧ Step M w w' := by
  have hb1 : ∃ r1, (decide (lo ≤ x) && decide (x ≤ hi)) = r1 := ⟨_, rfl⟩
  obtain ⟨r1, h1⟩ := hb1
  have HF : Hid (Pure.okCan b lo hi o f x = (r1 && decide (0 < Pure.ways b x o f))) := by
    subst h1
    exact Lib.hid rfl
  have H1 := Lib.hid h1
  clear h1
  have hS := ((Step.refl hw.memo).alloc (.cells #[.int .i64 b, .int .i64 lo, .int .i64 hi, setsV T C] 82)).alloc (.cells #[.int .i64 o, .int .i64 f] 37)
  have HS := Lib.hid hS
  have HW := Lib.hid hw
  clear hS hw
  go_enter Tryz.func79, Tryz.ntmps79
  go_wp2_with fail
  refine (within1 lo hi x _ 1 _ (cells_top _ _ _ (by simp) 0) r1 H1.out).mono ?_
  rintro e w' ⟨rfl, rfl⟩
  cases r1
  · go_wp2_with fail
    go_ret
    exact ⟨ret_bool (by rw [HF.out]; rfl), (HS.out.alloc _).alloc _⟩
  · go_wp2_with fail
    refine (ways_any b lo hi x o f hb0 hb (by omega) hx (by omega) ho0 ho hf0 hf _ (HW.out.step ((HS.out.alloc _).alloc _))).mono ?_
    rintro e w' ⟨rfl, hs⟩
    have HS2 := Lib.hid hs
    clear hs
    by_cases hp : 0 < Pure.ways b x o f
    · go_wp2_with fail
      go_ret
      exact ⟨ret_bool (by rw [HF.out]; simp [hp]), ((HS.out.alloc _).alloc _).trans HS2.out⟩
    · go_wp2_with fail
      go_ret
      exact ⟨ret_bool (by rw [HF.out]; simp), ((HS.out.alloc _).alloc _).trans HS2.out⟩

end Go.Proofs.YtjegkkpdemoldaaGreatDoor

namespace Go.Proofs.YtjegkkpdemoldaaGreatDoor
namespace Pure

/-- The most that one of some numbers is worth, at least 0. -/
def most (v : Int → Int) : List Int → Int
  | [] => 0
  | x :: l => max (v x) (most v l)
theorem most_nonneg (v : Int → Int) : ∀ l, 0 ≤ most v l
  | [] => Int.le_refl _
  | x :: l => by unfold most; have := most_nonneg v l; omega
theorem most_snoc (v : Int → Int) (x : Int) : ∀ l, most v (l ++ [x]) = max (most v l) (v x)
  | [] => by simp [most]; omega
  | y :: l => by simp only [List.cons_append, most, most_snoc v x l]; omega
theorem le_most (v : Int → Int) {x : Int} : ∀ {l : List Int}, x ∈ l → v x ≤ most v l
  | [], h => by cases h
  | y :: l, h => by
    unfold most
    rcases List.mem_cons.1 h with rfl | h
    · omega
    · have := le_most v h; omega
theorem most_le (v : Int → Int) {B : Int} (h0 : 0 ≤ B) : ∀ {l : List Int}, (∀ x ∈ l, v x ≤ B) → most v l ≤ B
  | [], _ => h0
  | y :: l, h => by
    unfold most
    have h1 := h y (by simp)
    have h2 := most_le v h0 (l := l) (fun x hx => h x (by simp [hx]))
    omega
/-- Those that are worth most. -/
def best (v : Int → Int) (l : List Int) : List Int := l.filter (fun x => v x == most v l)
theorem best_more {v : Int → Int} {x : Int} {l : List Int} (h : most v l < v x) : best v (l ++ [x]) = [x] := by
  unfold best
  have e : most v (l ++ [x]) = v x := by rw [most_snoc]; omega
  rw [e, List.filter_append]
  have h1 : l.filter (fun y => v y == v x) = [] := by
    rw [List.filter_eq_nil_iff]
    intro y hy hc
    have h2 := le_most v hy
    have h3 : v y = v x := by simpa using hc
    omega
  rw [h1]
  simp
theorem best_same {v : Int → Int} {x : Int} {l : List Int} (h : v x = most v l) : best v (l ++ [x]) = best v l ++ [x] := by
  unfold best
  have e : most v (l ++ [x]) = most v l := by rw [most_snoc]; omega
  rw [e, List.filter_append]
  simp [h]
theorem best_less {v : Int → Int} {x : Int} {l : List Int} (h : v x < most v l) : best v (l ++ [x]) = best v l := by
  unfold best
  have e : most v (l ++ [x]) = most v l := by rw [most_snoc]; omega
  rw [e, List.filter_append]
  have h1 : (v x == most v l) = false := by simp; omega
  simp [h1]
theorem best_length (v : Int → Int) (l : List Int) : (best v l).length ≤ l.length := List.length_filter_le _ _

/-- The last one that is as it is asked for. -/
def lastOf (p : Int → Bool) (l : List Int) : Option Int := (l.filter p).getLast?
theorem lastOf_yes {p : Int → Bool} {x : Int} {l : List Int} (h : p x = true) : lastOf p (l ++ [x]) = some x := by
  unfold lastOf
  rw [List.filter_append]
  simp [h]
theorem lastOf_no {p : Int → Bool} {x : Int} {l : List Int} (h : p x = false) : lastOf p (l ++ [x]) = lastOf p l := by
  unfold lastOf
  rw [List.filter_append]
  simp [h]
end Pure
end Go.Proofs.YtjegkkpdemoldaaGreatDoor
