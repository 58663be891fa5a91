/-
  The contracts of the specification's own functions about what can be: able, known, Given.
-/
import Derived.Test.YtmpbdbfflbdppaaFindTop
import Derived.Test.YtmpbdbfflbdppaaRefB
namespace Go.Proofs.Ytmpbdbfflbdppaa
open Go.RowKit Go.Shelf

/-- A slice value that reads as a list of numbers. -/
def IntsAt (w : World) (v : Value) (L : List Int) : Prop :=
  ∃ a cap, v = .slice a L.length cap ∧ ∀ j x, L[j]? = some x → ∃ b, a = some ⟨b, 0, none⟩ ∧ w.cell? ⟨b, j, none⟩ = some (.int .i64 x)
theorem IntsAt.below {w w' : World} {v : Value} {L : List Int} (h : IntsAt w v L) (hb : Below w.heap.size w w') : IntsAt w' v L := by
  obtain ⟨a, cap, rfl, h1⟩ := h
  refine ⟨a, cap, rfl, fun j x hj => ?_⟩
  obtain ⟨b, hb1, hc⟩ := h1 j x hj
  exact ⟨b, hb1, below_cell hb hc⟩
theorem IntsAt.of_row {w : World} {base : Nat} {e : TypeId} {v : Value} {L : List Int} (h : w.ownsRow base e 1 v L.length (L.map (Value.int .i64))) : IntsAt w v L := by
  rcases h.2 with ⟨rfl, h0⟩ | ⟨g, cap, cur, rfl, _, hh, _, _, hs, ht⟩
  · refine ⟨none, 0, by rw [h0], fun j x hj => ?_⟩
    have : L = [] := List.eq_nil_of_length_eq_zero h0
    subst this
    cases hj
  · refine ⟨_, cap, rfl, fun j x hj => ⟨g, rfl, ?_⟩⟩
    have hlt : j < L.length := (List.getElem?_eq_some_iff.1 hj).1
    unfold World.cell?
    simp only [hh]
    have h1 : (L.map (Value.int .i64))[j]? = some (.int .i64 x) := by rw [List.getElem?_map, hj]; rfl
    rw [← ht, List.getElem?_take, if_pos (by omega)] at h1
    simpa using h1

namespace Pure
def numsTo (b : Nat) (lo hi o f : Int) (m : Nat) : List Int := (ints m).filter (okCan b lo hi o f)
theorem numsTo_succ (b : Nat) (lo hi o f : Int) (m : Nat) : numsTo b lo hi o f (m + 1) = numsTo b lo hi o f m ++ (if okCan b lo hi o f m then [(m : Int)] else []) := by
  unfold numsTo
  rw [ints_succ, filter_snoc]
theorem okCan_out {b lo hi o f x : Int} (h : x < lo ∨ hi < x) : okCan b lo hi o f x = false := by
  unfold okCan
  rcases h with h | h
  · rw [show decide (lo ≤ x) = false from decide_eq_false (by omega)]; rfl
  · rw [show decide (x ≤ hi) = false from decide_eq_false (by omega), Bool.and_false]; rfl
theorem okCan_in {b lo hi o f x : Int} (h1 : lo ≤ x) (h2 : x ≤ hi) : okCan b lo hi o f x = decide (0 < ways b x o f) := by
  unfold okCan
  rw [show decide (lo ≤ x) = true from decide_eq_true h1, show decide (x ≤ hi) = true from decide_eq_true h2]
  rfl
theorem numsTo_start (b : Nat) (lo hi o f : Int) : ∀ m : Nat, (m : Int) ≤ lo → numsTo b lo hi o f m = []
  | 0, _ => rfl
  | m + 1, h => by
    rw [numsTo_succ, numsTo_start b lo hi o f m (by omega), okCan_out (.inl (by omega))]
    rfl
theorem numsTo_end (b : Nat) (lo hi o f : Int) (n : Nat) (hn : (n : Int) = hi + 1) : ∀ m : Nat, n ≤ m → numsTo b lo hi o f m = numsTo b lo hi o f n
  | 0, h => by obtain rfl : n = 0 := by omega
               rfl
  | m + 1, h => by
    by_cases e : n = m + 1
    · rw [e]
    · rw [numsTo_succ, numsTo_end b lo hi o f n hn m (by omega), okCan_out (.inr (by omega))]
      simp
theorem numsTo_length (b : Nat) (lo hi o f : Int) (m : Nat) : (numsTo b lo hi o f m).length ≤ m := by
  unfold numsTo
  exact Nat.le_trans (List.length_filter_le _ _) (by rw [ints_length]; omega)
theorem nums_eq {b : Nat} {lo hi o f : Int} {n : Nat} (hn : (n : Int) = hi + 1) (h : n ≤ b + 1) : nums b lo hi o f = numsTo b lo hi o f n := numsTo_end b lo hi o f n hn (b + 1) h
end Pure

set_option maxHeartbeats 2000000 in
set_option maxRecDepth 100000 in
theorem rAble_any (b ln hn : Nat) (o f : Int) (hb0 : 1 ≤ b) (hb : b ≤ 36) (hlh : ln ≤ hn) (hhb : hn ≤ b) (ho0 : 0 ≤ o) (ho : o ≤ b) (hf0 : 0 ≤ f) (hf : f ≤ o) (w : World) :
    Calls Try.prog 100 #[cargoV b ln hn, .agg #[.int .i64 o, .int .i64 f]] w fun e w' => ∃ v, e = .returned v ∧ IntsAt w' v (Pure.nums b ln hn o f) ∧ Below w.heap.size w w' := by
  obtain ⟨i0, hi0, hz0, hz1, hz2⟩ := info_parts infoInt
  go_enter Try.func100, Try.ntmps100
  have hc0 : ((w.alloc (.cells #[.int .i64 b, .int .i64 ln, .int .i64 hn] 25)).alloc (.cells #[.int .i64 o, .int .i64 f] 27)).heap[w.heap.size]? = some (.cells #[.int .i64 b, .int .i64 ln, .int .i64 hn] 25) := heap_up (heap_top _ _ rfl) _
  have hd0 : ((w.alloc (.cells #[.int .i64 b, .int .i64 ln, .int .i64 hn] 25)).alloc (.cells #[.int .i64 o, .int .i64 f] 27)).heap[w.heap.size + 1]? = some (.cells #[.int .i64 o, .int .i64 f] 27) := heap_top _ _ (by simp)
  have HC0 := Lib.hid hc0
  have HD0 := Lib.hid hd0
  clear hc0 hd0
  go_wp2_with fail
  obtain ⟨W1, hW1⟩ : ∃ W1, (w.alloc (.cells #[.int .i64 b, .int .i64 ln, .int .i64 hn] 25)).alloc (.cells #[.int .i64 o, .int .i64 f] 27) = W1 := ⟨_, rfl⟩
  have hsz : W1.heap.size = w.heap.size + 2 := by rw [← hW1]; simp
  have hB1 : Below w.heap.size w W1 := by rw [← hW1]; exact ((Below.refl _ _).alloc (Nat.le_refl _) _).alloc (by simp) _
  rw [hW1] at HC0 HD0 ⊢
  have HSZ := Lib.hid hsz
  have HB1 := Lib.hid hB1
  clear hW1 hsz hB1
  go_loopw [5, 6] (fun v n wr => ∃ m : Nat, ln ≤ m ∧ m ≤ hn + 1 ∧ n = .int .i64 m ∧ wr.ownsRow W1.heap.size 3 1 v (Pure.numsTo b ln hn o f m).length ((Pure.numsTo b ln hn o f m).map (Value.int .i64)) ∧ Below W1.heap.size W1 wr) (fun _ n _ => hn + 1 - (intOf n).toNat)
  case atStart => exact ⟨ln, Nat.le_refl _, by omega, rfl, by rw [Pure.numsTo_start b ln hn o f ln (Int.le_refl _)]; exact World.ownsRow_nil _ _ _ _, Below.refl _ _⟩
  case round =>
    obtain ⟨m, hm0, hm1, rfl, hown, hbw⟩ := hrel
    have hcw := (hbw.block _ (by have := HSZ.out; omega)).trans HC0.out
    have hdw := (hbw.block _ (by have := HSZ.out; omega)).trans HD0.out
    have c0 := heap_cell hcw (j := 0) rfl
    have c1 := heap_cell hcw (j := 1) rfl
    have c2 := heap_cell hcw (j := 2) rfl
    have d0 := heap_cell hdw (j := 0) rfl
    have d1 := heap_cell hdw (j := 1) rfl
    have HOWN := Lib.hid hown
    have HBW := Lib.hid hbw
    clear hcw hdw hown hbw
    by_cases hlt : m < hn + 1
    · have hsucc := Pure.numsTo_succ b ln hn o f m
      rw [Pure.okCan_in (by omega) (by omega)] at hsucc
      have HSU := Lib.hid hsucc
      have HLE := Lib.hid (Pure.numsTo_length b ln hn o f m)
      clear hsucc
      by_cases hp : 0 < Pure.ways b m o f
      · have HEQ : Hid (Pure.numsTo b ln hn o f (m + 1) = Pure.numsTo b ln hn o f m ++ [(m : Int)]) := Lib.hid (by rw [HSU.out, decide_eq_true hp]; rfl)
        go_wp2_with (first
          | (go_at_call 58; refine (rCount_any b m o f (by omega) (by omega) (by omega) (by omega) (by omega) ho0 (by omega) (by omega) (by omega) _).mono ?_; rintro e w' ⟨rfl, rfl⟩)
          | (at_builtin; refine wpList_append_own _ rfl _ _ 39 rfl W1.heap.size 3 i0 (.int .i64 0) 1 8 Try.underlying39 hi0 hz0 hz1 hz2 rfl (by decide) _ _ _ rfl (HOWN.out.alloc _) ⟨wr.heap.size, 0, none⟩ 1 1 [.int .i64 m] rfl rfl (cell_one _ _ _ (by simp)) (by simp [Value.oneCell']) (by have := HLE.out; unfold maxLen; omega) (by have := HLE.out; omega) (by have := HBW.out.size; simp; omega) ?_; intro v' w1 hown' hgrow _))
        have hlt2 := HOWN.out.lt
        have HOWN2 := Lib.hid hown'
        have HB2 := Lib.hid ((HBW.out.alloc HBW.out.size (.cells #[.int .i64 m] 3)).grown hgrow (by have := HBW.out.size; simp; omega) (fun k e => (hlt2 k e).1))
        clear hown' hgrow hlt2
        go_roundw
        case rel => exact ⟨m + 1, by omega, by omega, by go_num, by rw [HEQ.out]; simpa using HOWN2.out, HB2.out⟩
        case measure => simp [intOf]; omega
      · have HEQ : Hid (Pure.numsTo b ln hn o f (m + 1) = Pure.numsTo b ln hn o f m) := Lib.hid (by rw [HSU.out, decide_eq_false hp]; simp)
        go_wp2_with (first
          | (go_at_call 58; refine (rCount_any b m o f (by omega) (by omega) (by omega) (by omega) (by omega) ho0 (by omega) (by omega) (by omega) _).mono ?_; rintro e w' ⟨rfl, rfl⟩))
        go_roundw
        case rel => exact ⟨m + 1, by omega, by omega, by go_num, by rw [HEQ.out]; exact HOWN.out, HBW.out⟩
        case measure => simp [intOf]; omega
    · obtain rfl : m = hn + 1 := by omega
      go_wp2_with fail
      go_ret
      exact ⟨_, rfl, by rw [Pure.nums_eq (n := hn + 1) (by omega) (by omega)]; exact IntsAt.of_row HOWN.out, HB1.out.trans (HBW.out.mono HB1.out.size)⟩

end Go.Proofs.Ytmpbdbfflbdppaa
