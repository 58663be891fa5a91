/-
  The contract of firstError: the first of some codes that is an error. By slices.Values, first and a predicate.
-/
import Derived.Test.YtacdbjandcdejaaVCopy
import Derived.RangeFuncNested
import Derived.RangeFuncBound
import Derived.RangeFuncCalls
import Derived.RangeFuncLeaves
import Derived.RangeFuncBox
import Derived.RangeFuncWrites
import Derived.Shelf.Abstract
import Derived.Shelf.RegionOpen
import Derived.TacticsInMore
import Derived.LoopNIn
import Derived.LoopIn
namespace Go.Proofs.Ytacdbjandcdejaa
open Go.RowKit Go.Shelf
attribute [local go_sem] Oper.semAt_some

/-- What has come when k rounds are over: f 0, .., f (k - 1). -/
def upto {α : Type} (f : Nat → α) (k : Nat) : List α := (List.range k).map f
theorem upto_succ {α : Type} (f : Nat → α) (k : Nat) : upto f (k + 1) = upto f k ++ [f k] := by simp [upto, List.range_succ]
theorem upto_length {α : Type} (f : Nat → α) (k : Nat) : (upto f k).length = k := by simp [upto]

/-- The slice value holds these codes, in a block below n₀. -/
def Codes (n₀ : Nat) (W : World) (b len : Nat) (zs : List Int) : Prop := zs.length = len ∧ b < n₀ ∧ ∀ j, j < len → W.cell? ⟨b, j, none⟩ = some (.int .i64 (zs[j]?.getD 0))

set_option maxRecDepth 100000 in
set_option maxHeartbeats 2000000 in
theorem errs_values1 (l Bs n₀ b len cap n : Nat) (zs : List Int) (hreach : len ≤ 100) (hb : b < n₀) (J Jx : List Int → World → Prop)
    (hY : ∀ pre x W, J pre W → pre.length < len → YieldAt Fence.wide n Try.prog l #[.int .i64 x] W fun e W' =>
      (e = .returned (.bool true) ∧ J (pre ++ [x]) W' ∧ Below n₀ W W') ∨ (e = .returned (.bool false) ∧ Jx (pre ++ [x]) W'))
    (W : World) (hBs : W.cell? ⟨Bs, 0, none⟩ = some (.slice (some ⟨b, 0, none⟩) len cap)) (hc : ∀ j, j < len → W.cell? ⟨b, j, none⟩ = some (.int .i64 (zs[j]?.getD 0))) (h0 : J [] W) :
    CallsIn Fence.wide (n + 1) Try.prog 52 #[.func (.yield l) #[] #[], .pointer (some ⟨Bs, 0, none⟩)] W fun e W' => (∃ v, e = .returned v) ∧
      ((∃ ys, ys = upto (fun j => zs[j]?.getD 0) len ∧ J ys W') ∨ (∃ pre, (∃ k, k ≤ len ∧ pre = upto (fun j => zs[j]?.getD 0) k) ∧ Jx pre W')) := by
  refine callsIn_of_wp Try.func52 rfl trivial ?_ rfl
  simp only [Try.ntmps52, List.size_toArray, List.length_cons, List.length_nil, Nat.reduceAdd, Nat.reduceSub, Array.replicate_succ, Array.replicate_zero, List.push_toArray, List.append_toArray, List.nil_append, List.cons_append]
  gi_wp2
  gi_loopw [7] (fun i wr => ∃ k : Nat, k ≤ len ∧ i = .int .i64 k ∧ J (upto (fun j => zs[j]?.getD 0) k) wr ∧ Below n₀ W wr)
    (fun i _ => len - (intOf i).toNat)
  case atStart => exact ⟨0, Nat.zero_le _, rfl, h0, Below.refl _ _⟩
  case round =>
    obtain ⟨k, hk, rfl, hJs, hnx⟩ := hrel
    have hcx : k < len → wr.cell? ⟨b, k, none⟩ = some (.int .i64 (zs[k]?.getD 0)) := fun h => (hnx.cell (p := ⟨b, k, none⟩) hb).trans (hc k h)
    by_cases hlt : k < len
    · obtain ⟨fn, tmps, assign, body, hy, hR⟩ := hY _ (zs[k]?.getD 0) wr hJs (by rw [upto_length]; exact hlt)
      have hcx' := hcx hlt
      gi_wp2
      refine hR.mono ?_
      rintro e W3 (⟨rfl, hJ3, hk3⟩ | ⟨rfl, hJx3⟩)
      · gi_wp2
        go_roundw
        case rel => exact ⟨k + 1, by omega, by simp, by rw [upto_succ]; exact hJ3, hnx.trans hk3⟩
        case measure => simp [intOf]; omega
      · gi_wp2
        refine bodyPost_ret (results_none rfl _ _ _) rfl ?_
        exact ⟨⟨_, rfl⟩, .inr ⟨_, ⟨k + 1, by omega, (upto_succ _ _).symm⟩, hJx3⟩⟩
    · obtain rfl : k = len := by omega
      gi_wp2
      go_end0
      exact ⟨⟨_, rfl⟩, .inl ⟨_, rfl, hJs⟩⟩

theorem upto_all (zs : List Int) : upto (fun j => zs[j]?.getD 0) zs.length = zs := by
  apply List.ext_getElem
  · simp [upto]
  · intro i h1 h2
    simp [upto, h2]
theorem upto_take (zs : List Int) {k : Nat} (hk : k ≤ zs.length) : upto (fun j => zs[j]?.getD 0) k = zs.take k := by
  apply List.ext_getElem
  · simp [upto, hk]
  · intro i h1 h2
    have : i < zs.length := by simp [upto] at h1; omega
    simp [upto, this]

/-- The iterator of slices.Values over some codes: all of them, or the first ones. -/
theorem errs_stops (n Bs n₀ b len cap : Nat) (zs : List Int) (hl : zs.length = len) (hreach : len ≤ 100) (w : World) (hBs : Bs < w.heap.size) (hn₀ : n₀ ≤ w.heap.size) (hb : b < n₀)
    (hc : w.cell? ⟨Bs, 0, none⟩ = some (.slice (some ⟨b, 0, none⟩) len cap)) (hI : ∀ j, j < len → w.cell? ⟨b, j, none⟩ = some (.int .i64 (zs[j]?.getD 0))) :
    SeqStopsK Fence.wide (n + 1) Try.prog 52 #[.pointer (some ⟨Bs, 0, none⟩)] (fun x : Int => #[Value.int .i64 x]) (Below n₀) (fun ys => ys = zs) (fun pre => pre <+: zs) len w := fun l J Jx W hW _ _ hY h0 => by
  have hc' := (hW.cell (p := ⟨Bs, 0, none⟩) hBs).trans hc
  have hI' : ∀ j, j < len → W.cell? ⟨b, j, none⟩ = some (.int .i64 (zs[j]?.getD 0)) := fun j hj => (hW.cell (p := ⟨b, j, none⟩) (Nat.lt_of_lt_of_le hb hn₀)).trans (hI j hj)
  refine (errs_values1 l Bs n₀ b len cap n zs hreach hb J Jx hY W hc' hI' h0).mono ?_
  rintro e W' ⟨he, ⟨ys, rfl, hj⟩ | ⟨pre, ⟨k, hk, rfl⟩, hj⟩⟩
  · exact ⟨he, .inl ⟨_, by rw [← hl]; exact upto_all zs, hj⟩⟩
  · exact ⟨he, .inr ⟨_, by rw [upto_take zs (by omega)]; exact List.take_prefix _ _, hj⟩⟩

theorem errs_values (b len cap : Nat) (w : World) :
    Calls Try.prog 30 #[.slice (some ⟨b, 0, none⟩) len cap] w fun e w' =>
      e = .returned (.func (.func 52) #[] #[.pointer (some ⟨w.heap.size, 0, none⟩)]) ∧ w' = w.alloc (.cells #[.slice (some ⟨b, 0, none⟩) len cap] 72) := by
  go_enter Try.func30, Try.ntmps30
  go_wp2
  go_ret
  exact ⟨rfl, rfl⟩

namespace Pure
theorem find_none {zs : List Int} (h : zs.any (· != 0) = false) : zs.find? (· != 0) = none := by
  rw [List.find?_eq_none]
  intro x hx hx0
  rw [List.any_eq_false] at h
  exact h x hx hx0
theorem find_hit {zs ini : List Int} {x : Int} (h : ini ++ [x] <+: zs) (h1 : ini.any (· != 0) = false) (h2 : (x != 0) = true) : zs.find? (· != 0) = some x ∧ zs.any (· != 0) = true := by
  obtain ⟨t, rfl⟩ := h
  constructor
  · rw [List.append_assoc, List.find?_append, find_none h1]
    simp [h2]
  · simp [h2]
end Pure

theorem boxed_turn {W W' : World} {row : Option Nat} {B : Nat} {t : TypeId} {v : Value} (h : Boxed W B t v) (hg : W.grownBy W' row) (hr : ∀ r, row = some r → ∃ o : Obj, W.heap[r]? = some o ∧ o.isCells = false) : Boxed W' B t v :=
  boxed_own B t (fun _ : Unit => v) () W W' row h hg hr

theorem isError_any (x : Int) (w : World) : Calls Try.prog 31 #[.int .i64 x] w fun e w' => e = .returned (.bool (x != 0)) ∧ w = w' := by
  go_enter Try.func31, Try.ntmps31
  go_wp2
  go_ret
  exact ⟨rfl, rfl⟩

set_option maxRecDepth 100000 in
set_option maxHeartbeats 2000000 in
theorem firstErr_in (n Bs b len cap : Nat) (zs : List Int) (hl : zs.length = len) (hreach : len ≤ 100) (w : World) (hb : b < w.heap.size)
    (hc : w.cell? ⟨Bs, 0, none⟩ = some (.slice (some ⟨b, 0, none⟩) len cap)) (hI : ∀ j, j < len → w.cell? ⟨b, j, none⟩ = some (.int .i64 (zs[j]?.getD 0))) :
    CallsIn Fence.wide (n + 3) Try.prog 29 #[.func (.func 52) #[] #[.pointer (some ⟨Bs, 0, none⟩)], .func (.func 31) #[] #[]] w fun e W' =>
      e = .returned (.tuple #[.int .i64 ((zs.find? (· != 0)).getD 0), .bool (zs.any (· != 0))]) ∧ Below w.heap.size w W' := by
  refine callsIn_of_wp_marks Try.func29 rfl trivial ?_ rfl
  simp only [Try.ntmps29, List.size_toArray, List.length_cons, List.length_nil, Nat.reduceAdd, Nat.reduceSub, Array.replicate_succ, Array.replicate_zero, List.push_toArray, List.append_toArray, List.nil_append, List.cons_append]
  have HB := Lib.hid hb
  have HC := Lib.hid hc
  have HI := Lib.hid hI
  have HL := Lib.hid hl
  clear hb hc hI hl
  gi_wp2
  obtain ⟨w1, hw1⟩ : ∃ w1, ((w.alloc (.cells #[.func (.func 31) #[] #[]] 78)).alloc (.cells #[.int .i64 0] 34)).alloc (.cells #[.bool false] 4) = w1 := ⟨_, rfl⟩
  have hsz : w1.heap.size = w.heap.size + 3 := by rw [← hw1]; simp
  have hB0 : Below w.heap.size w w1 := by rw [← hw1]; exact (((Below.refl _ w).alloc (Nat.le_refl _) _).alloc (by simp) _).alloc (by simp; omega) _
  have b0 : Boxed w1 w.heap.size 78 (.func (.func 31) #[] #[]) := by rw [← hw1]; exact ((Boxed.new w _ _).alloc _).alloc _
  have b1 : Boxed w1 (w.heap.size + 1) 34 (.int .i64 0) := by rw [← hw1]; have h := Boxed.new (w.alloc (.cells #[.func (.func 31) #[] #[]] 78)) 34 (.int .i64 0); rw [World.size_alloc] at h; exact h.alloc _
  have b2 : Boxed w1 (w.heap.size + 1 + 1) 4 (.bool false) := by rw [← hw1]; have h := Boxed.new ((w.alloc (.cells #[.func (.func 31) #[] #[]] 78)).alloc (.cells #[.int .i64 0] 34)) 4 (.bool false); rw [World.size_alloc, World.size_alloc] at h; exact h
  rw [hw1]
  have HSZ := Lib.hid hsz
  clear hsz hw1
  refine wpIn_rangeFunc_ownG (n := n + 3) rfl (by omega) (gf := 52) (lb := #[.pointer (some ⟨Bs, 0, none⟩)]) rfl trivial (enters_of Try.func52 (by kernel_rfl) rfl)
    (errs_stops (n + 1) Bs w.heap.size b len cap zs HL.out hreach w1 (by have h : Bs < w.heap.size := World.block_lt_of_cell? w _ HC.out; have := HSZ.out; omega) (by have := HSZ.out; omega) HB.out ((hB0.cell (World.block_lt_of_cell? w _ HC.out)).trans HC.out) (fun j hj => (hB0.cell (p := ⟨b, j, none⟩) HB.out).trans (HI.out j hj)))
    belowK_t (belowK_b (by have := HSZ.out; omega)) (Below.refl _ _) (fun _ => rfl)
    (fun pre W => (pre.any (· != 0) = false ∧ Boxed W w.heap.size 78 (.func (.func 31) #[] #[]) ∧ Boxed W (w.heap.size + 1) 34 (.int .i64 0) ∧ Boxed W (w.heap.size + 1 + 1) 4 (.bool false)) ∧ Below w.heap.size w W)
    (fun c pre W => (c = .ret ∧ ∃ ini x, pre = ini ++ [x] ∧ ini.any (· != 0) = false ∧ (x != 0) = true ∧ Boxed W (w.heap.size + 1) 34 (.int .i64 x) ∧ Boxed W (w.heap.size + 1 + 1) 4 (.bool true)) ∧ Below w.heap.size w W)
    (OwnFrom.and (Own.from (fun s A B row hs hg hr => ⟨hs.1, boxed_turn hs.2.1 hg hr, boxed_turn hs.2.2.1 hg hr, boxed_turn hs.2.2.2 hg hr⟩) _) (ownFrom_below (Nat.le_refl _) (by have := HSZ.out; omega)))
    (fun c => OwnFrom.and (Own.from (fun s A B row hs hg hr => by obtain ⟨hc, ini, x, e1, e2, e3, e4, e5⟩ := hs; exact ⟨hc, ini, x, e1, e2, e3, boxed_turn e4 hg hr, boxed_turn e5 hg hr⟩) _) (ownFrom_below (Nat.le_refl _) (by have := HSZ.out; omega)))
    ⟨⟨rfl, b0, b1, b2⟩, hB0⟩
    (fun x => { tmps := #[.func (.func 52) #[] #[.pointer (some ⟨Bs, 0, none⟩)], .func (.func 31) #[] #[], undef, .pointer (some ⟨w.heap.size, 0, none⟩), .pointer (some ⟨w.heap.size + 1, 0, none⟩), .pointer (some ⟨w.heap.size + 1 + 1, 0, none⟩), .int .i64 x, undef, .func (.func 52) #[] #[.pointer (some ⟨Bs, 0, none⟩)], .int .i64 x, undef, undef, undef, undef, undef], defers := [] }) ?assign ?body ?done ?stop
  case assign =>
    intro l x W K hK
    gi_wp2
    exact hK
  case body =>
    rintro l pre x W ⟨⟨hp, hb0, hb1, hb2⟩, hB⟩ _
    have hc0 := hb0.cell
    have hf1 := hb1.frozen
    have hf2 := hb2.frozen
    have hc1 := hb1.cell
    have hc2 := (hb2.other (by omega) (.int .i64 x) : Boxed (W.setCell ⟨w.heap.size + 1, 0, none⟩ (.int .i64 x)) _ _ _).cell
    have HP := Lib.hid hp
    have HB0 := Lib.hid hb0
    have HB1 := Lib.hid hb1
    have HB2 := Lib.hid hb2
    have HBB := Lib.hid hB
    clear hp hb0 hb1 hb2 hB
    by_cases hx : x = 0
    · have hxb : (x != 0) = false := by simp [hx]
      have hI' : (pre ++ [x]).any (· != 0) = false := by rw [List.any_append, HP.out]; simp [hx]
      have HI' := Lib.hid hI'
      clear hI' hx
      gi_wp2_with (refine ⟨trivial, ?_⟩; gi_at_call 31; refine (CallsIn.inRound l (callsIn_wide.2 (isError_any _ _))).mono ?_; rintro e w' ⟨rfl, rfl⟩)
      exact ⟨KeepsFrom.refl _ _, Below.refl _ _, ⟨HI'.out, HB0.out, HB1.out, HB2.out⟩, HBB.out⟩
    · have hxb : (x != 0) = true := by simp [hx]
      clear hx
      gi_wp2_with (refine ⟨trivial, ?_⟩; gi_at_call 31; refine (CallsIn.inRound l (callsIn_wide.2 (isError_any _ _))).mono ?_; rintro e w' ⟨rfl, rfl⟩)
      have k1 : Boxed (W.setCell ⟨w.heap.size + 1, 0, none⟩ (.int .i64 x)) (w.heap.size + 1 + 1) 4 (.bool false) := HB2.out.other (by omega) _
      exact ⟨((KeepsOthers.setCell _ _ _).trans (KeepsOthers.setCell _ _ _)).from _, ⟨rfl, pre, x, rfl, HP.out, hxb, (HB1.out.set _).other (by omega) _, k1.set _⟩,
        (HBB.out.setCell (p := ⟨w.heap.size + 1, 0, none⟩) (by simp) _).setCell (p := ⟨w.heap.size + 1 + 1, 0, none⟩) (by simp; omega) _⟩
  case done =>
    rintro D ys W hD rfl ⟨⟨hp, hb0, hb1, hb2⟩, hB⟩ hK
    have hf1 := hb1.frozen
    have hf2 := hb2.frozen
    have hc1 := hb1.cell
    have hc2 := (hb2.other (by omega) (.int .i64 0) : Boxed (W.setCell ⟨w.heap.size + 1, 0, none⟩ (.int .i64 0)) _ _ _).cell
    have HP := Lib.hid hp
    have HB1 := Lib.hid hb1
    have HB2 := Lib.hid hb2
    have HBB := Lib.hid hB
    have HK := Lib.hid hK
    have HD := Lib.hid hD
    clear hp hb0 hb1 hb2 hB hK hD
    gi_wp2
    have hK' := ((KeepsOthers.setCell W ⟨w.heap.size + 1, 0, none⟩ (.int .i64 0)).trans (KeepsOthers.setCell _ ⟨w.heap.size + 1 + 1, 0, none⟩ (.bool false))).same D _ HK.out rfl
    refine ⟨by simp, .inl ⟨_, _, rfl, run_takeDeferred hK', ?_⟩⟩
    have k2 : Boxed (W.setCell ⟨w.heap.size + 1, 0, none⟩ (.int .i64 0)) (w.heap.size + 1 + 1) 4 (.bool false) := HB2.out.other (by omega) _
    have k1 : Boxed ((W.setCell ⟨w.heap.size + 1, 0, none⟩ (.int .i64 0)).setCell ⟨w.heap.size + 1 + 1, 0, none⟩ (.bool false)) (w.heap.size + 1) 34 (.int .i64 0) := (HB1.out.set (.int .i64 0)).other (by omega) (.bool false)
    have r1 := (boxed_turn k1 (grownBy_putObj' _ D (.deferred none)) (fun r e => by cases e; exact ⟨_, hK', rfl⟩)).cell
    have r2 := (boxed_turn (k2.set (.bool false)) (grownBy_putObj' _ D (.deferred none)) (fun r e => by cases e; exact ⟨_, hK', rfl⟩)).cell
    refine ⟨.tuple #[.int .i64 0, .bool false], ?_, ⟨?_, ((HBB.out.setCell (p := ⟨w.heap.size + 1, 0, none⟩) (by simp) _).setCell (p := ⟨w.heap.size + 1 + 1, 0, none⟩) (by simp; omega) _).trans (belowK_b (w := w) (Nat.le_refl _) _ D _ _ (by have := HD.out; have := HSZ.out; omega) hK' rfl rfl)⟩⟩
    · simp [results, Try.f29, go_sem, r1, r2]
    · rw [Pure.find_none HP.out, HP.out]; rfl
  case stop =>
    rintro D c pre W hD hpre ⟨⟨rfl, ini, x, rfl, e2, e3, hb1, hb2⟩, hB⟩ hK
    gi_wp2
    refine ⟨by simp, .inl ⟨_, _, rfl, run_takeDeferred hK, ?_⟩⟩
    have r1 := (boxed_turn hb1 (grownBy_putObj' _ D (.deferred none)) (fun r e => by cases e; exact ⟨_, hK, rfl⟩)).cell
    have r2 := (boxed_turn hb2 (grownBy_putObj' _ D (.deferred none)) (fun r e => by cases e; exact ⟨_, hK, rfl⟩)).cell
    refine ⟨.tuple #[.int .i64 x, .bool true], ?_, ⟨?_, hB.trans (belowK_b (w := w) (Nat.le_refl _) _ D _ _ (by have := HSZ.out; omega) hK rfl rfl)⟩⟩
    · simp [results, Try.f29, go_sem, r1, r2]
    · rw [(Pure.find_hit hpre e2 e3).1, (Pure.find_hit hpre e2 e3).2]; rfl

set_option maxHeartbeats 1000000 in
/-- **firstError**: the first of some codes that is an error, otherwise 0. -/
theorem firstError_any (b len cap : Nat) (zs : List Int) (hl : zs.length = len) (hreach : len ≤ 100) (w : World) (hb : b < w.heap.size)
    (hI : ∀ j, j < len → w.cell? ⟨b, j, none⟩ = some (.int .i64 (zs[j]?.getD 0))) :
    Calls Try.prog 16 #[.slice (some ⟨b, 0, none⟩) len cap] w fun e w' => e = .returned (.int .i64 ((zs.find? (· != 0)).getD 0)) ∧ Below w.heap.size w w' := by
  have HI := Lib.hid hI
  have HL := Lib.hid hl
  have HB := Lib.hid hb
  clear hI hl hb
  have hB1 : Below w.heap.size w (w.alloc (.cells #[.slice (some ⟨b, 0, none⟩) len cap] 72)) := (Below.refl _ _).alloc (Nat.le_refl _) _
  have HB1 := Lib.hid hB1
  clear hB1
  go_enter Try.func16, Try.ntmps16
  go_wp2_with fail
  refine (errs_values b len cap _).mono ?_
  rintro e w' ⟨rfl, rfl⟩
  go_wp2_with fail
  refine (callsIn_wide.1 (firstErr_in 0 w.heap.size b len cap zs HL.out hreach _ (by simp; have := HB.out; omega) (first_cell _ _ _ rfl) (fun j hj => cell_up (HI.out j hj) _))).mono ?_
  rintro e w' ⟨rfl, hB2⟩
  have HB2 := Lib.hid hB2
  clear hB2
  go_wp2_with fail
  go_ret
  exact ⟨rfl, HB1.out.trans (HB2.out.mono (by simp))⟩

theorem firstError2G (x y : Int) (s cap : Nat) (w : World) (h0 : w.cell? ⟨s, 0, none⟩ = some (.int .i64 x)) (h1 : w.cell? ⟨s, 1, none⟩ = some (.int .i64 y)) :
    Calls Try.prog 16 #[.slice (some ⟨s, 0, none⟩) 2 cap] w fun e w' => e = .returned (.int .i64 (if x = 0 then y else x)) ∧ Below w.heap.size w w' :=
  (firstError_any s 2 cap [x, y] rfl (by omega) w (World.block_lt_of_cell? w _ h0) (fun j hj => by
    have : j = 0 ∨ j = 1 := by omega
    rcases this with rfl | rfl
    · exact h0
    · exact h1)).mono fun e w' h => ⟨by
      rw [h.1]
      congr 2
      by_cases hx : x = 0
      · by_cases hy : y = 0
        · subst hx; subst hy; rfl
        · subst hx; simp [hy]
      · simp [hx], h.2⟩

end Go.Proofs.Ytacdbjandcdejaa
