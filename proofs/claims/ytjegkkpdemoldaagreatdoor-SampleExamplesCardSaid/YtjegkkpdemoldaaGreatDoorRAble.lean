/-
  The contracts of the specification's own functions about what can be: able, known, Given.
  The contract of the reference's SameInts.
-/
import Derived.Test.YtjegkkpdemoldaaGreatDoorFindTop
import Derived.Test.YtjegkkpdemoldaaGreatDoorRefB

namespace Go.Proofs.YtjegkkpdemoldaaGreatDoor
open Go.RowKit Go.Shelf

/-- A slice value that reads as a list of numbers. -/
def IntsAt (w : World) (v : Value) (L : List Int) : Prop :=
  ∃ a cap, v = .slice a L.length cap ∧ ∀ j x, L[j]? = some x → ∃ b, a = some ⟨b, 0, none⟩ ∧ w.cell? ⟨b, j, none⟩ = some (.int .i64 x)
theorem IntsAt.below {w w' : World} {v : Value} {L : List Int} (h : IntsAt w v L) (hb : Below w.heap.size w w') : IntsAt w' v L := by
  obtain ⟨a, cap, rfl, h1⟩ := h
  refine ⟨a, cap, rfl, fun j x hj => ?_⟩
  obtain ⟨b, hb1, hc⟩ := h1 j x hj
  exact ⟨b, hb1, below_cell hb hc⟩
theorem IntsAt.of_row {w : World} {base : Nat} {e : TypeId} {v : Value} {L : List Int} (h : w.ownsRow base e 1 v L.length (L.map (Value.int .i64))) : IntsAt w v L := by
  rcases h.2 with ⟨rfl, h0⟩ | ⟨g, cap, cur, rfl, _, hh, _, _, hs, ht⟩
  · refine ⟨none, 0, by rw [h0], fun j x hj => ?_⟩
    have : L = [] := List.eq_nil_of_length_eq_zero h0
    subst this
    cases hj
  · refine ⟨_, cap, rfl, fun j x hj => ⟨g, rfl, ?_⟩⟩
    have hlt : j < L.length := (List.getElem?_eq_some_iff.1 hj).1
    unfold World.cell?
    simp only [hh]
    have h1 : (L.map (Value.int .i64))[j]? = some (.int .i64 x) := by rw [List.getElem?_map, hj]; rfl
    rw [← ht, List.getElem?_take, if_pos (by omega)] at h1
    simpa using h1

namespace Pure
def numsTo (b : Nat) (lo hi o f : Int) (m : Nat) : List Int := (ints m).filter (okCan b lo hi o f)
theorem numsTo_succ (b : Nat) (lo hi o f : Int) (m : Nat) : numsTo b lo hi o f (m + 1) = numsTo b lo hi o f m ++ (if okCan b lo hi o f m then [(m : Int)] else []) := by
  unfold numsTo
  rw [ints_succ, filter_snoc]
theorem okCan_out {b lo hi o f x : Int} (h : x < lo ∨ hi < x) : okCan b lo hi o f x = false := by
  unfold okCan
  rcases h with h | h
  · rw [show decide (lo ≤ x) = false from decide_eq_false (by omega)]; rfl
  · rw [show decide (x ≤ hi) = false from decide_eq_false (by omega), Bool.and_false]; rfl
theorem okCan_in {b lo hi o f x : Int} (h1 : lo ≤ x) (h2 : x ≤ hi) : okCan b lo hi o f x = decide (0 < ways b x o f) := by
  unfold okCan
  rw [show decide (lo ≤ x) = true from decide_eq_true h1, show decide (x ≤ hi) = true from decide_eq_true h2]
  rfl
theorem numsTo_start (b : Nat) (lo hi o f : Int) : ∀ m : Nat, (m : Int) ≤ lo → numsTo b lo hi o f m = []
  | 0, _ => rfl
  | m + 1, h => by
    rw [numsTo_succ, numsTo_start b lo hi o f m (by omega), okCan_out (.inl (by omega))]
    rfl
theorem numsTo_end (b : Nat) (lo hi o f : Int) (n : Nat) (hn : (n : Int) = hi + 1) : ∀ m : Nat, n ≤ m → numsTo b lo hi o f m = numsTo b lo hi o f n
  | 0, h => by obtain rfl : n = 0 := by omega
               rfl
  | m + 1, h => by
    by_cases e : n = m + 1
    · rw [e]
    · rw [numsTo_succ, numsTo_end b lo hi o f n hn m (by omega), okCan_out (.inr (by omega))]
      simp
theorem numsTo_length (b : Nat) (lo hi o f : Int) (m : Nat) : (numsTo b lo hi o f m).length ≤ m := by
  unfold numsTo
  exact Nat.le_trans (List.length_filter_le _ _) (by rw [ints_length]; omega)
theorem nums_eq {b : Nat} {lo hi o f : Int} {n : Nat} (hn : (n : Int) = hi + 1) (h : n ≤ b + 1) : nums b lo hi o f = numsTo b lo hi o f n := numsTo_end b lo hi o f n hn (b + 1) h
end Pure

end Go.Proofs.YtjegkkpdemoldaaGreatDoor

namespace Go.Proofs.YtjegkkpdemoldaaGreatDoor
open Go.RowKit Go.Shelf

set_option maxHeartbeats 2000000 in
set_option maxRecDepth 100000 in
/-- **SameInts**, of two slices that read alike. -/
theorem sameInts_any (v u : Value) (L : List Int) (hL : L.length ≤ 1000) (w : World) (hv : IntsAt w v L) (hu : IntsAt w u L) :
    Calls Tryz.prog 19 #[v, u] w fun e w' => e = .returned (.bool true) ∧ Below w.heap.size w w' := by
  obtain ⟨a, cap, rfl, ha⟩ := hv
  obtain ⟨a', cap', rfl, ha'⟩ := hu
  have HA := Lib.hid ha
  have HA' := Lib.hid ha'
  clear ha ha'
  obtain ⟨n, hn⟩ : ∃ n, L.length = n := ⟨_, rfl⟩
  rw [hn] at hL ⊢
  have HN := Lib.hid hn
  clear hn
  go_enter Tryz.func19, Tryz.ntmps19
  go_wp2_with fail
  go_loopw [5] (fun i wr => ∃ k : Nat, k ≤ n ∧ i = .int .i64 k ∧ Below w.heap.size w wr) (fun i _ => n - (intOf i).toNat)
  case atStart => exact ⟨0, Nat.zero_le _, rfl, Below.refl _ _⟩
  case round =>
    obtain ⟨k, hk, rfl, hbw⟩ := hrel
    by_cases hlt : k < n
    · obtain ⟨x, hx⟩ : ∃ x, L[k]? = some x := ⟨L[k]'(by have := HN.out; omega), List.getElem?_eq_getElem (by have := HN.out; omega)⟩
      obtain ⟨g, rfl, c0⟩ := HA.out k x hx
      obtain ⟨g', rfl, c1⟩ := HA'.out k x hx
      replace c0 := below_cell hbw c0
      replace c1 := below_cell hbw c1
      have HBW := Lib.hid hbw
      clear hbw hx
      go_wp2_with fail
      go_quiet (fail)
      go_wp2_with fail
      go_roundw
      case rel => exact ⟨k + 1, by omega, by go_num, below_drewN HBW.out _⟩
      case measure => simp [intOf]; omega
    · obtain rfl : k = n := by omega
      go_wp2_with fail
      go_ret
      exact ⟨rfl, hbw⟩


end Go.Proofs.YtjegkkpdemoldaaGreatDoor
