/-
  The contracts of the specification's known and Given.
  The contracts of the specification's own Rule, Double, Accepts, fine, risked and Good.
  The contracts of the specification's own Curve and SameParts.
  Plain mathematics: the more bags are dirty, the fewer draws find few.
  Plain mathematics: the numbers that can be after a draw are all from one to another; the bound is the last of them that has the chance.
  Plain mathematics: the numbers of a cargo before a draw, and the cells of a curve.
  The contract of Curve.
  The contract of Fair.
  The answers of the calls of the chapter's examples.
-/
import Derived.Test.YtjegkkpdemoldaaGreatDoorRAble
import Derived.Test.YtjegkkpdemoldaaGreatDoorTwiceTop
import Derived.Test.YtjegkkpdemoldaaGreatDoorGood
import Derived.Deep.QuietTactic
import Derived.Test.YtjegkkpdemoldaaGreatDoorTerms
import Derived.Test.YtjegkkpdemoldaaGreatDoorLikely
import Derived.Deep.AppendLies
import Derived.Deep.RegionHeld3
import Derived.Test.YtjegkkpdemoldaaGreatDoorVander
import Derived.Test.YtjegkkpdemoldaaGreatDoorFindTop
import Derived.Test.YtjegkkpdemoldaaGreatDoorHeldIn
import Derived.Test.YtjegkkpdemoldaaGreatDoorOffTop
import Derived.Test.YtjegkkpdemoldaaGreatDoorRule
import Derived.Test.YtjegkkpdemoldaaGreatDoorLoop
import Derived.Maps.OwnIn
import Derived.Test.YtjegkkpdemoldaaGreatDoorAlive
import Derived.Test.YtjegkkpdemoldaaGreatDoorAccepts

namespace Go.Proofs.YtjegkkpdemoldaaGreatDoor
open Go.RowKit Go.Shelf

namespace Pure
theorem okParts_zero (F P : Nat → Int) : okParts 0 F P = true := okParts_true (fun j h => absurd h (Nat.not_lt_zero j))
theorem canE_cargo {b lo hi o f : Int} (h : okCargo b lo hi = false) : canE b lo hi o f = 10 := by
  unfold canE afterE
  rw [h]
  rfl
theorem canE_draw {b lo hi o f : Int} (h : okCargo b lo hi = true) (h1 : okDraw b o f = false) : canE b lo hi o f = 11 := by
  unfold canE afterE
  rw [h, h1]
  rfl
theorem canE_ok {b lo hi o f : Int} (h : okCargo b lo hi = true) (h1 : okDraw b o f = true) : canE b lo hi o f = err (some b.toNat lo hi o f) 8 := by
  unfold canE afterE
  rw [h, h1, okParts_zero]
  rfl
theorem some_nums (b : Nat) (lo hi o f : Int) : some b lo hi o f = !(nums b lo hi o f).isEmpty := by
  show (ints (b + 1)).any (okCan b lo hi o f) = _
  unfold nums
  generalize ints (b + 1) = l
  induction l with
  | nil => rfl
  | cons x l ih =>
    rw [List.any_cons, ih, List.filter_cons]
    cases okCan b lo hi o f x <;> rfl
def knownL (b lo hi o f : Int) : List Int := if canE b lo hi o f = 0 then nums b.toNat lo hi o f else []
theorem knownL_err {b lo hi o f : Int} (h : canE b lo hi o f ≠ 0) : knownL b lo hi o f = [] := if_neg h
theorem knownL_zero {b lo hi o f : Int} (h : canE b lo hi o f = 0) : knownL b lo hi o f = nums b.toNat lo hi o f := if_pos h
end Pure

theorem IntsAt.nil (w : World) (c : Nat) : IntsAt w (.slice none 0 c) [] := ⟨none, c, rfl, fun j x h => by cases h⟩

end Go.Proofs.YtjegkkpdemoldaaGreatDoor

namespace Go.Proofs.YtjegkkpdemoldaaGreatDoor
open Go.RowKit Go.Shelf

theorem heap_lft {w w' : World} {B : Nat} {o : Obj} (h : w.heap[B]? = some o) (hb : Below w.heap.size w w') : w'.heap[B]? = some o := (hb.block _ (Array.getElem?_eq_some_iff.1 h).1).trans h
theorem below_thn {W u v : World} (h : Below W.heap.size W u) (k : Below u.heap.size u v) : Below W.heap.size W v := h.trans (k.mono h.size)

namespace Pure
theorem firstL_cons (a : Int) (l : List Int) : firstL (a :: l) = if a = 0 then firstL l else a := by
  unfold firstL
  by_cases h : a = 0
  · simp [h]
  · simp [h]
def riskE (lo hi good bad p q r s : Int) : Int := firstL [err (okIn lo hi good && okIn lo hi bad) 2, err (okParts 2 (two p r) (two q s)) 12, err (decide (good < bad)) 2]
theorem okParts_both (p q r s : Int) : okParts 2 (two p r) (two q s) = (okParts 1 (fun _ => p) (fun _ => q) && okParts 1 (fun _ => r) (fun _ => s)) := by
  unfold okParts
  rw [Bool.eq_iff_iff]
  simp only [Bool.and_eq_true, decide_eq_true_eq]
  constructor
  · intro h
    exact ⟨fun j _ => h 0 (by decide), fun j _ => h 1 (by decide)⟩
  · rintro ⟨h1, h2⟩ j hj
    have hj2 : j = 0 ∨ j = 1 := by omega
    rcases hj2 with rfl | rfl
    · exact h1 0 (by decide)
    · exact h2 0 (by decide)
end Pure

end Go.Proofs.YtjegkkpdemoldaaGreatDoor

namespace Go.Proofs.YtjegkkpdemoldaaGreatDoor
open Go.RowKit Go.Shelf

namespace Pure
def curveE (b lo hi x y : Int) : Int := if okCargo b lo hi then (if okDraw b x y then 0 else 13) else 10
/-- The chances of a curve, in lowest terms. -/
def curveN (b lo x y : Int) (j : Nat) : Int := few b (lo + j) x y / gcd (few b (lo + j) x y) (sets b x)
def curveD (b lo x y : Int) (j : Nat) : Int := sets b x / gcd (few b (lo + j) x y) (sets b x)
end Pure
theorem infoPart : (Tryz.prog.info? 31).map (fun i => (i.zero, i.size, i.bytes)) = some (some (.agg #[.int .i64 0, .int .i64 0]), 2, 16) := by kernel_rfl
/-- The cells of fractions one behind the other. -/
def cells2 (F P : Nat → Int) : Nat → List Value
  | 0 => []
  | k + 1 => cells2 F P k ++ [.int .i64 (F k), .int .i64 (P k)]
theorem cells2_length (F P : Nat → Int) : ∀ k : Nat, (cells2 F P k).length = k * 2
  | 0 => rfl
  | k + 1 => by
    show (cells2 F P k ++ _).length = _
    rw [List.length_append, cells2_length F P k, List.length_cons, List.length_cons, List.length_nil]
    omega
theorem cells2_get (F P : Nat → Int) {j : Nat} : ∀ {k : Nat}, j < k → (cells2 F P k)[j * 2]? = some (.int .i64 (F j)) ∧ (cells2 F P k)[j * 2 + 1]? = some (.int .i64 (P j))
  | 0, h => absurd h (Nat.not_lt_zero _)
  | k + 1, h => by
    show (cells2 F P k ++ _)[j * 2]? = _ ∧ (cells2 F P k ++ _)[j * 2 + 1]? = _
    have hl := cells2_length F P k
    by_cases e : j < k
    · have ih := cells2_get F P (k := k) e
      rw [List.getElem?_append_left (by omega), List.getElem?_append_left (by omega)]
      exact ih
    · obtain rfl : j = k := by omega
      rw [List.getElem?_append_right (by omega), List.getElem?_append_right (by omega), hl]
      simp
theorem parts_of_row {w : World} {base : Nat} {t : TypeId} {v : Value} {len : Nat} {F P : Nat → Int} (h : w.ownsRow base t 2 v len (cells2 F P len)) (h0 : 0 < len) :
    ∃ a cap, v = .slice a len cap ∧ TermsAt w a len F P := by
  obtain ⟨_, hn | ⟨g, cap, cur, rfl, _, hg, _, _, _, ht⟩⟩ := h
  · omega
  · refine ⟨_, cap, rfl, fun j hj => ⟨g, 0, rfl, ?_⟩⟩
    obtain ⟨h1, h2⟩ := cells2_get F P hj
    rw [← ht, List.getElem?_take_of_lt (by omega)] at h1 h2
    constructor
    · unfold World.cell?
      simp only [hg]
      simpa using h1
    · unfold World.cell?
      simp only [hg]
      simpa using h2
theorem cell_two (w : World) (u v : Value) (t : TypeId) {b : Nat} (hb : b = w.heap.size) (j : Nat) (z : Value) (h : [u, v][j]? = some z) : (w.alloc (.cells #[u, v] t)).cell? ((⟨b, 0, none⟩ : Addr).add j) = some z := by
  rw [Go.WideShapes.add_plain, Nat.zero_add]
  exact (cells_top w #[u, v] t hb j).trans (by simpa using h)
theorem row_blw {w w' : World} {base size n : Nat} {e : TypeId} {v : Value} {xs : List Value} (h : w.ownsRow base e size v n xs) (k : Below w.heap.size w w') : w'.ownsRow base e size v n xs :=
  ⟨h.1, h.2.imp id (fun ⟨g, cap, cur, hv, hb, hg, r⟩ => ⟨g, cap, cur, hv, hb, heap_lft hg k, r⟩)⟩
theorem row_drw {w : World} {base size n : Nat} {e : TypeId} {v : Value} {xs : List Value} (h : w.ownsRow base e size v n xs) : w.drew.ownsRow base e size v n xs := h
/-- What Curve answers: a code, and a slice of fractions. -/
def CurveOut (code : Int) (len : Nat) (F P : Nat → Int) (w : World) (e : Ending) (w' : World) : Prop :=
  ∃ a n cap, e = .returned (.tuple #[.slice a n cap, .int .i64 code]) ∧ n = (if code = 0 then len else 0) ∧ TermsAt w' a n F P ∧ Below w.heap.size w w'

set_option maxHeartbeats 2000000 in
set_option maxRecDepth 100000 in
/-- **SameParts**. -/
theorem sameParts_any (a a' : Option Addr) (len cap cap' : Nat) (F P : Nat → Int) (hl : len ≤ 37) (w : World) (ht : TermsAt w a len F P) (ht' : TermsAt w a' len F P) :
    Calls Tryz.prog 20 #[.slice a len cap, .slice a' len cap'] w fun e w' => e = .returned (.bool true) ∧ Below w.heap.size w w' := by
  have HT := Lib.hid ht
  have HT' := Lib.hid ht'
  clear ht ht'
  go_enter Tryz.func20, Tryz.ntmps20
  go_wp2_with fail
  go_loopw [5] (fun i wr => ∃ k : Nat, k ≤ len ∧ i = .int .i64 k ∧ Below w.heap.size w wr) (fun i _ => len - (intOf i).toNat)
  case atStart => exact ⟨0, Nat.zero_le _, rfl, Below.refl _ _⟩
  case round =>
    obtain ⟨k, hk, rfl, hB⟩ := hrel
    by_cases hk1 : k < len
    · obtain ⟨b, off, rfl, g0, g1⟩ := HT.out k hk1
      obtain ⟨b', off', rfl, g2, g3⟩ := HT'.out k hk1
      have e0 := below_cell hB g0
      have e1 := below_cell hB g1
      have e2 := below_cell hB g2
      have e3 := below_cell hB g3
      have hk2 : (k : Int) < len := by omega
      have x0 := among_below e0
      have x1 := among_below e1
      have x2 := among_below e2
      have x3 := among_below e3
      have HB := Lib.hid hB
      have HSt : Hid (Below wr.heap.size wr wr.drew) := Lib.hid (Below.refl _ _).drew
      have hne : Nonempty (Among (Below wr.heap.size wr)) := ⟨⟨_, HSt.out⟩⟩
      clear hB g0 g1 g2 g3 e0 e1 e2 e3
      go_wp2_with fail
      refine wp_region_class (Below wr.heap.size wr) (by kernel_rfl) (by kernel_rfl) HSt.out ?_
      repeat (go_big_quiet_step (fail))
      refine wpQuiet_nil ?_
      intro w3 hx
      have hB3 := among_out hx
      clear hx hne x0 x1 x2 x3
      have HB3 : Hid (Below w.heap.size w w3) := Lib.hid (HB.out.trans (hB3.mono HB.out.size))
      clear hB3
      go_wp2_with fail
      go_roundw
      case rel => exact ⟨k + 1, by omega, by go_num, HB3.out⟩
      case measure => simp [intOf]; omega
    · obtain rfl : k = len := by omega
      go_wp2_with fail
      go_ret
      exact ⟨rfl, hB⟩


end Go.Proofs.YtjegkkpdemoldaaGreatDoor

namespace Go.Proofs.YtjegkkpdemoldaaGreatDoor
namespace Pure

/-- A dirty bag more takes away the draws that found as many as may be, and this bag. -/
theorem few_step_nat (m n : Nat) : ∀ r f : Nat, f ≤ r + 1 → upSum (fun k => ch (m + 1) k * ch n (r + 1 - k)) (f + 1) + ch m f * ch n (r - f) * (if f ≤ r then 1 else 0) = upSum (fun k => ch m k * ch (n + 1) (r + 1 - k)) (f + 1)
  | r, 0, _ => by
    show 0 + ch (m + 1) 0 * ch n (r + 1 - 0) + ch m 0 * ch n (r - 0) * _ = 0 + ch m 0 * ch (n + 1) (r + 1 - 0)
    rw [ch_zero, ch_zero, Nat.sub_zero, Nat.sub_zero, ch_succ n r]
    simp
    omega
  | r, f + 1, hf => by
    have ih := few_step_nat m n r f (by omega)
    show upSum _ (f + 1) + ch (m + 1) (f + 1) * ch n (r + 1 - (f + 1)) + _ = upSum _ (f + 1) + ch m (f + 1) * ch (n + 1) (r + 1 - (f + 1))
    rw [← ih, show r + 1 - (f + 1) = r - f by omega, ch_succ m f, Nat.add_mul]
    by_cases h : f + 1 ≤ r
    · have e : r - f = r - (f + 1) + 1 := by omega
      rw [if_pos h, if_pos (show f ≤ r by omega), e, ch_succ n (r - (f + 1)), Nat.mul_add (ch m (f + 1))]
      omega
    · by_cases h2 : f ≤ r
      · obtain rfl : f = r := by omega
        rw [if_neg h, if_pos h2, Nat.sub_self, ch_zero, ch_zero]
        omega
      · omega
/-- **The more bags are dirty, the less is the chance to find few.** -/
theorem few_mono {b d o f : Int} (hd0 : 0 ≤ d) (hd : d < b) (ho0 : 0 ≤ o) (hf0 : 0 ≤ f) (hf : f ≤ o) : few b (d + 1) o f ≤ few b d o f := by
  obtain ⟨m, rfl⟩ : ∃ m : Nat, d = m := ⟨d.toNat, by omega⟩
  obtain ⟨n, rfl⟩ : ∃ n : Nat, b = (m : Int) + 1 + n := ⟨(b - m - 1).toNat, by omega⟩
  obtain ⟨k, rfl⟩ : ∃ k : Nat, f = k := ⟨f.toNat, by omega⟩
  rw [few_eq hf0 hf, few_eq hf0 hf, show ((k : Int) + 1).toNat = k + 1 by omega]
  obtain ⟨r, rfl⟩ : ∃ r : Nat, o = r := ⟨o.toNat, by omega⟩
  have e1 := fewTo_sum (m + 1) n r (k + 1) (by omega)
  have e2 := fewTo_sum m (n + 1) r (k + 1) (by omega)
  rw [show (((m + 1 : Nat) : Int) + n) = (m : Int) + 1 + n by omega, show ((m + 1 : Nat) : Int) = (m : Int) + 1 by omega] at e1
  rw [show ((m : Int) + ((n + 1 : Nat) : Int)) = (m : Int) + 1 + n by omega] at e2
  rw [e1, e2]
  cases r with
  | zero =>
    obtain rfl : k = 0 := by omega
    show ((0 + ch (m + 1) 0 * ch n (0 - 0) : Nat) : Int) ≤ ((0 + ch m 0 * ch (n + 1) (0 - 0) : Nat) : Int)
    simp [ch_zero]
  | succ r =>
    have h := few_step_nat m n r k (by omega)
    omega
theorem few_mono_le {b d e o f : Int} (hd0 : 0 ≤ d) (hde : d ≤ e) (he : e ≤ b) (ho0 : 0 ≤ o) (hf0 : 0 ≤ f) (hf : f ≤ o) : few b e o f ≤ few b d o f := by
  obtain ⟨k, rfl⟩ : ∃ k : Nat, e = d + k := ⟨(e - d).toNat, by omega⟩
  induction k with
  | zero => rw [show d + ((0 : Nat) : Int) = d by omega]; exact Int.le_refl _
  | succ k ih =>
    have h := few_mono (b := b) (d := d + k) (o := o) (f := f) (by omega) (by omega) ho0 hf0 hf
    rw [show d + ((k : Int)) + 1 = d + ((k + 1 : Nat) : Int) by omega] at h
    exact Int.le_trans h (ih (by omega) (by omega))
theorem ch_down {n k : Nat} (h : k ≤ n) : (k + 1) * ch n (k + 1) = (n - k) * ch n k := by
  have h1 := ch_absorb n k
  rw [ch_succ, Nat.mul_add] at h1
  obtain ⟨j, rfl⟩ : ∃ j, n = k + j := ⟨n - k, by omega⟩
  rw [show k + j - k = j by omega]
  rw [show k + j + 1 = k + 1 + j by omega, Nat.add_mul (k + 1) j] at h1
  omega
/-- **The more are opened, the less is the chance to find none.** -/
theorem none_less {b d o : Int} (hd0 : 0 ≤ d) (hd : d ≤ b) (ho0 : 0 ≤ o) (ho : o < b) : sets (b - d) (o + 1) * sets b o ≤ sets (b - d) o * sets b (o + 1) := by
  by_cases hc : b - d < o
  · rw [sets_none (n := b - d) (k := o + 1) (.inr (by omega)), sets_none (n := b - d) (k := o) (.inr hc)]
    omega
  obtain ⟨k, rfl⟩ : ∃ k : Nat, o = k := ⟨o.toNat, by omega⟩
  obtain ⟨n, hn⟩ : ∃ n : Nat, b - d = n := ⟨(b - d).toNat, by omega⟩
  obtain ⟨m, rfl⟩ : ∃ m : Nat, b = m := ⟨b.toNat, by omega⟩
  rw [hn, show ((k : Int) + 1) = ((k + 1 : Nat) : Int) by omega, sets_nat, sets_nat, sets_nat, sets_nat]
  have h1 := ch_down (n := n) (k := k) (by omega)
  have h2 := ch_down (n := m) (k := k) (by omega)
  have h3 : (k + 1) * (ch n (k + 1) * ch m k) ≤ (k + 1) * (ch n k * ch m (k + 1)) := by
    rw [← Nat.mul_assoc, h1, Nat.mul_left_comm (k + 1) (ch n k), h2, Nat.mul_assoc, Nat.mul_left_comm (ch n k)]
    exact Nat.mul_le_mul_right _ (by omega)
  have h4 := Nat.le_of_mul_le_mul_left h3 (by omega)
  exact_mod_cast h4

end Pure
end Go.Proofs.YtjegkkpdemoldaaGreatDoor

namespace Go.Proofs.YtjegkkpdemoldaaGreatDoor
namespace Pure

theorem ways_pos {b x o f : Int} (hf0 : 0 ≤ f) (hf : f ≤ o) : 0 < ways b x o f ↔ f ≤ x ∧ o - f ≤ b - x := by
  constructor
  · intro h
    constructor
    · refine Int.not_lt.1 fun hc => ?_
      unfold ways at h
      rw [sets_none (n := x) (k := f) (.inr hc)] at h
      omega
    · refine Int.not_lt.1 fun hc => ?_
      unfold ways at h
      rw [sets_none (n := b - x) (k := o - f) (.inr hc)] at h
      omega
  · rintro ⟨h1, h2⟩
    exact Int.mul_pos (sets_pos hf0 h1) (sets_pos (by omega) h2)
/-- The numbers that can be are those from the greater of two to the lesser of two. -/
theorem mem_span {b : Nat} {lo hi o f x : Int} (_ : 0 ≤ lo) (hb : hi ≤ b) (hf0 : 0 ≤ f) (hf : f ≤ o) : x ∈ nums b lo hi o f ↔ max lo f ≤ x ∧ x ≤ min hi (b - o + f) := by
  rw [mem_nums]
  unfold okCan
  simp only [Bool.and_eq_true, decide_eq_true_eq]
  constructor
  · rintro ⟨⟨h1, h2⟩, ⟨h3, h4⟩, h5⟩
    have := (ways_pos hf0 hf).1 h5
    omega
  · rintro ⟨h1, h2⟩
    exact ⟨⟨by omega, by omega⟩, ⟨by omega, by omega⟩, (ways_pos hf0 hf).2 ⟨by omega, by omega⟩⟩
theorem fst_of {b A : Int} {l : List Int} (hl : l.Pairwise (· < ·)) (hA : A ∈ l) (h : ∀ x ∈ l, A ≤ x) : fst b l = A := by
  cases l with
  | nil => cases hA
  | cons y l =>
    show y = A
    have h1 := h y (by simp)
    rcases List.mem_cons.1 hA with rfl | h2
    · rfl
    · have := (List.pairwise_cons.1 hl).1 A h2
      omega
theorem lst_of {B : Int} {l : List Int} (hl : l.Pairwise (· < ·)) (hB : B ∈ l) (h : ∀ x ∈ l, x ≤ B) : lst l = B := by
  unfold lst
  cases e : l.getLast? with
  | none =>
    rw [List.getLast?_eq_none_iff] at e
    subst e
    cases hB
  | some y =>
    show y = B
    obtain ⟨ys, rfl⟩ := List.getLast?_eq_some_iff.1 e
    have h1 := h y (by simp)
    rcases List.mem_append.1 hB with h2 | h2
    · have := (List.pairwise_append.1 hl).2.2 B h2 y (by simp)
      omega
    · have : B = y := by simpa using h2
      omega
theorem span_vals {b : Nat} {lo hi o f : Int} (l0 : 0 ≤ lo) (hb : hi ≤ b) (hf0 : 0 ≤ f) (hf : f ≤ o) (h : max lo f ≤ min hi (b - o + f)) :
    fst b (nums b lo hi o f) = max lo f ∧ lst (nums b lo hi o f) = min hi (b - o + f) :=
  ⟨fst_of (nums_rising b lo hi o f) ((mem_span l0 hb hf0 hf).2 ⟨Int.le_refl _, h⟩) (fun _ hx => ((mem_span l0 hb hf0 hf).1 hx).1),
    lst_of (nums_rising b lo hi o f) ((mem_span l0 hb hf0 hf).2 ⟨h, Int.le_refl _⟩) (fun _ hx => ((mem_span l0 hb hf0 hf).1 hx).2)⟩

/-- s is the last number from lo on, before lo + k, that is as it is asked for; -1 if there is none. -/
def IsBest (C : Int → Bool) (lo : Int) (k : Nat) (s : Int) : Prop :=
  (s = -1 ∧ ∀ x, lo ≤ x → x < lo + k → C x = false) ∨ (C s = true ∧ lo ≤ s ∧ s < lo + k ∧ ∀ x, s < x → x < lo + k → C x = false)
theorem isBest_zero (C : Int → Bool) (lo : Int) : IsBest C lo 0 (-1) := .inl ⟨rfl, fun x h1 h2 => by omega⟩
theorem isBest_yes {C : Int → Bool} {lo s : Int} {k : Nat} (_ : IsBest C lo k s) (h : C (lo + k) = true) : IsBest C lo (k + 1) (lo + k) :=
  .inr ⟨h, by omega, by omega, fun x h1 h2 => by omega⟩
theorem isBest_no {C : Int → Bool} {lo s : Int} {k : Nat} (hs : IsBest C lo k s) (h : C (lo + k) = false) : IsBest C lo (k + 1) s := by
  rcases hs with ⟨h1, h2⟩ | ⟨h1, h2, h3, h4⟩
  · refine .inl ⟨h1, fun x a b => ?_⟩
    by_cases e : x = lo + k
    · rw [e]; exact h
    · exact h2 x a (by omega)
  · refine .inr ⟨h1, h2, by omega, fun x a b => ?_⟩
    by_cases e : x = lo + k
    · rw [e]; exact h
    · exact h4 x a (by omega)
theorem isBest_range {C : Int → Bool} {lo s : Int} {k : Nat} (hs : IsBest C lo k s) : s = -1 ∨ (lo ≤ s ∧ s < lo + k) := by
  rcases hs with ⟨h1, _⟩ | ⟨_, h2, h3, _⟩
  · exact .inl h1
  · exact .inr ⟨h2, h3⟩
theorem last_of {B : Int} {l : List Int} (hl : l.Pairwise (· < ·)) (hB : B ∈ l) (h : ∀ x ∈ l, x ≤ B) : l.getLast? = Option.some B := by
  cases e : l.getLast? with
  | none =>
    rw [List.getLast?_eq_none_iff] at e
    subst e
    cases hB
  | some y =>
    obtain ⟨ys, rfl⟩ := List.getLast?_eq_some_iff.1 e
    have h1 := h y (by simp)
    congr 1
    rcases List.mem_append.1 hB with h2 | h2
    · have := (List.pairwise_append.1 hl).2.2 B h2 y (by simp)
      omega
    · have : B = y := by simpa using h2
      omega
/-- What is asked of a number for the bound. -/
def okAsk (b o f p q A B : Int) (x : Int) : Bool := decide (A ≤ x) && decide (x ≤ B) && decide (sets b o * p ≤ few b x o f * q)
theorem okAsk_iff {b o f p q A B x : Int} : okAsk b o f p q A B x = true ↔ A ≤ x ∧ x ≤ B ∧ okBound b o f p q x = true := by
  unfold okAsk okBound
  simp only [Bool.and_eq_true, decide_eq_true_eq, Int.mul_comm p]
  exact and_assoc
theorem bound_best {b k : Nat} {lo hi o f p q s : Int} (l0 : 0 ≤ lo) (hb : hi ≤ b) (hf0 : 0 ≤ f) (hf : f ≤ o) (hk : lo + k = hi + 1) (hs : IsBest (okAsk b o f p q (max lo f) (min hi (b - o + f))) lo k s) :
    (s = -1 ∧ bound b lo hi o f p q = none) ∨ (0 ≤ s ∧ bound b lo hi o f p q = Option.some s) := by
  unfold bound lastOf
  rcases hs with ⟨h1, h2⟩ | ⟨h1, h2, h3, h4⟩
  · refine .inl ⟨h1, ?_⟩
    rw [List.getLast?_eq_none_iff, List.filter_eq_nil_iff]
    intro x hx hc
    have hm := (mem_span l0 hb hf0 hf).1 hx
    have := h2 x (by omega) (by omega)
    rw [okAsk_iff.2 ⟨hm.1, hm.2, hc⟩] at this
    cases this
  · have h5 := okAsk_iff.1 h1
    refine .inr ⟨by omega, last_of ((nums_rising b lo hi o f).filter _) (List.mem_filter.2 ⟨(mem_span l0 hb hf0 hf).2 ⟨h5.1, h5.2.1⟩, h5.2.2⟩) fun x hx => ?_⟩
    obtain ⟨hx1, hx2⟩ := List.mem_filter.1 hx
    have hm := (mem_span l0 hb hf0 hf).1 hx1
    refine Int.not_lt.1 fun hc => ?_
    have := h4 x hc (by omega)
    rw [okAsk_iff.2 ⟨hm.1, hm.2, hx2⟩] at this
    cases this
theorem some_iff {b : Nat} {lo hi o f : Int} (l0 : 0 ≤ lo) (hb : hi ≤ b) (hf0 : 0 ≤ f) (hf : f ≤ o) : some b lo hi o f = true ↔ max lo f ≤ min hi (b - o + f) := by
  unfold some
  rw [List.any_eq_true]
  constructor
  · rintro ⟨x, h1, h2⟩
    have := (mem_span l0 hb hf0 hf).1 (List.mem_filter.2 ⟨h1, h2⟩)
    omega
  · intro h
    have := (mem_span (x := max lo f) l0 hb hf0 hf).2 ⟨Int.le_refl _, h⟩
    obtain ⟨h1, h2⟩ := List.mem_filter.1 this
    exact ⟨_, h1, h2⟩
theorem afterE_val {b lo hi o f : Int} (hc : okCargo b lo hi = true) (hd : okDraw b o f = true) : afterE b lo hi o f true = err (some b.toNat lo hi o f) 8 := by
  unfold afterE
  rw [hc, hd]
  rfl
/-- Two fractions in lowest terms, held against each other. -/
theorem le_low {n d m e : Int} (hn : 0 ≤ n) (hd : 0 < d) (hm : 0 ≤ m) (he : 0 < e) (h : n * e ≤ m * d) : n / gcd n d * (e / gcd m e) ≤ m / gcd m e * (d / gcd n d) := by
  rw [low_le hn hd, low_ge hm he]
  exact h
end Pure
end Go.Proofs.YtjegkkpdemoldaaGreatDoor

namespace Go.Proofs.YtjegkkpdemoldaaGreatDoor
namespace Pure

/-- Before a draw all numbers of the span can be. -/
theorem nums_all {b : Nat} {lo hi : Int} (l0 : 0 ≤ lo) (l1 : lo ≤ hi) (hb : hi ≤ b) : nums b lo hi 0 0 = (List.range (hi - lo + 1).toNat).map (fun j : Nat => lo + (j : Int)) := by
  have key : ∀ k : Nat, lo + (k : Int) ≤ hi + 1 → numsTo b lo hi 0 0 (lo.toNat + k) = (List.range k).map (fun j : Nat => lo + (j : Int)) := by
    intro k
    induction k with
    | zero =>
      intro _
      rw [Nat.add_zero, numsTo_start b lo hi 0 0 lo.toNat (by omega)]
      rfl
    | succ k ih =>
      intro h
      have hc : okCan b lo hi 0 0 ((lo.toNat + k : Nat) : Int) = true := by
        unfold okCan
        rw [decide_eq_true (show lo ≤ ((lo.toNat + k : Nat) : Int) by omega), decide_eq_true (show ((lo.toNat + k : Nat) : Int) ≤ hi by omega), decide_eq_true ((ways_pos (Int.le_refl 0) (Int.le_refl 0)).2 ⟨by omega, by omega⟩)]
        rfl
      rw [← Nat.add_assoc, numsTo_succ, ih (by omega), List.range_succ, List.map_append, if_pos hc]
      congr 1
      simp
      omega
  rw [nums_eq (n := lo.toNat + (hi - lo + 1).toNat) (by omega) (by omega), key _ (by omega)]
end Pure
/-- The cells of fractions, one for each number of a list. -/
def cellsOf (N D : Int → Int) (l : List Int) : List Value := l.flatMap (fun n => [.int .i64 (N n), .int .i64 (D n)])
theorem cellsOf_snoc (N D : Int → Int) (l : List Int) (x : Int) : cellsOf N D (l ++ [x]) = cellsOf N D l ++ [.int .i64 (N x), .int .i64 (D x)] := by
  unfold cellsOf
  rw [List.flatMap_append]
  rfl
theorem cellsOf_range (N D : Int → Int) (lo : Int) : ∀ k : Nat, cellsOf N D ((List.range k).map (fun j : Nat => lo + (j : Int))) = cells2 (fun j => N (lo + (j : Int))) (fun j => D (lo + (j : Int))) k
  | 0 => rfl
  | k + 1 => by
    rw [List.range_succ, List.map_append, List.map_cons, List.map_nil, cellsOf_snoc, cellsOf_range N D lo k]
    rfl
end Go.Proofs.YtjegkkpdemoldaaGreatDoor

namespace Go.Proofs.YtjegkkpdemoldaaGreatDoor
open Go.RowKit Go.Shelf
attribute [local go_sem] Oper.semAt_some

theorem acceptsE {f M : Nat} {args : Array Value} {w : World} {n d : Int} {u : Value} (hv : partV n d = u) (h : Calls Tryz.prog f args w fun e w' => e = .returned (partV n d) ∧ Step M w w') : Calls Tryz.prog f args w fun e w' => e = .returned u ∧ Step M w w' := by
  subst hv
  exact h

set_option maxHeartbeats 4000000 in
set_option maxRecDepth 100000 in
theorem curve_in (b lo hi x y : Int) (w : World) :
    CallsIn Fence.wide 5 Tryz.prog 14 #[cargoV b lo hi, .agg #[.int .i64 x, .int .i64 y]] w (CurveOut (Pure.curveE b lo hi x y) (hi - lo + 1).toNat (Pure.curveN b lo x y) (Pure.curveD b lo x y) w) := by
  obtain ⟨k1, h1⟩ : ∃ z, Pure.okCargo b lo hi = z := ⟨_, rfl⟩
  obtain ⟨k2, h2⟩ : ∃ z, Pure.okDraw b x y = z := ⟨_, rfl⟩
  have HE : Hid (Pure.curveE b lo hi x y = if k1 then (if k2 then 0 else 13) else 10) := Lib.hid (by unfold Pure.curveE; rw [h1, h2])
  have HF : Hid (Pure.first2 (Pure.err k1 10) (Pure.err k2 13) = if k1 then (if k2 then 0 else 13) else 10) := Lib.hid (by cases k1 <;> cases k2 <;> rfl)
  have H1 := Lib.hid h1
  have H2 := Lib.hid h2
  clear h1 h2
  refine callsIn_of_wp_marks Tryz.func14 rfl trivial ?_ rfl
  simp only [Tryz.ntmps14, List.size_toArray, List.length_cons, List.length_nil, Nat.reduceAdd, Nat.reduceSub, Array.replicate_succ, Array.replicate_zero, List.push_toArray, List.append_toArray, List.nil_append, List.cons_append]
  refine wpIn_wide.2 ?_
  go_upto_region 1 with fail
  obtain ⟨W1, hW1⟩ : ∃ v, (w.alloc (.cells #[.int .i64 b, .int .i64 lo, .int .i64 hi] 28)).alloc (.cells #[.int .i64 x, .int .i64 y] 47) = v := ⟨_, rfl⟩
  have HA : Hid (W1.heap[w.heap.size]? = some (.cells #[.int .i64 b, .int .i64 lo, .int .i64 hi] 28) ∧ W1.heap[w.heap.size + 1]? = some (.cells #[.int .i64 x, .int .i64 y] 47)) := by rw [← hW1]; exact Lib.hid ⟨heap_up (heap_top w _ rfl) _, heap_top _ _ (by simp)⟩
  have HB : Hid (Below w.heap.size w W1) := by rw [← hW1]; exact Lib.hid (((Below.refl _ _).alloc (Nat.le_refl _) _).alloc (by simp; try omega) _)
  rw [hW1]
  clear hW1
  have HK : Hid (∀ v : World, Below W1.heap.size W1 v → (v.cell? ⟨w.heap.size, 0, none⟩ = some (.int .i64 b) ∧ v.cell? ⟨w.heap.size, 1, none⟩ = some (.int .i64 lo) ∧ v.cell? ⟨w.heap.size, 2, none⟩ = some (.int .i64 hi) ∧ v.cell? ⟨(w.heap.size + 1), 0, none⟩ = some (.int .i64 x) ∧ v.cell? ⟨(w.heap.size + 1), 1, none⟩ = some (.int .i64 y) ∧ Below W1.heap.size W1 v)) :=
    Lib.hid (fun v k => ⟨below_cell k (heap_cell HA.out.1 (j := 0) rfl), below_cell k (heap_cell HA.out.1 (j := 1) rfl), below_cell k (heap_cell HA.out.1 (j := 2) rfl), below_cell k (heap_cell HA.out.2 (j := 0) rfl), below_cell k (heap_cell HA.out.2 (j := 1) rfl), k⟩)
  go_cut [6] from 10 to 16 (fun s wx => s = .int .i64 (Pure.first2 (Pure.err k1 10) (Pure.err k2 13)) ∧ Below W1.heap.size W1 wx)
  case first =>
    as_aux_lemma =>
      go_region_held3 (fun v => v.cell? ⟨w.heap.size, 0, none⟩ = some (.int .i64 b) ∧ v.cell? ⟨w.heap.size, 1, none⟩ = some (.int .i64 lo) ∧ v.cell? ⟨w.heap.size, 2, none⟩ = some (.int .i64 hi) ∧ v.cell? ⟨(w.heap.size + 1), 0, none⟩ = some (.int .i64 x) ∧ v.cell? ⟨(w.heap.size + 1), 1, none⟩ = some (.int .i64 y) ∧ Below W1.heap.size W1 v)
        (first | exact HK.out _ (Below.refl _ _).drew | with_reducible exact HK.out _ hq3 | with_reducible exact HK.out _ hq2 | with_reducible exact HK.out _ hq1 | with_reducible exact HK.out _ (Below.alloc hq2 (Below.size hq2) _) | with_reducible exact HK.out _ (Below.alloc hq1 (Below.size hq1) _))
        (first
          | (go_at_call 29; with_reducible refine (check_any _ _ _ _).mono ?_; rw [H1.out]; rintro e u1 ⟨rfl, hb1⟩; have hq1 : Below W1.heap.size W1 u1 := below_thn (And.right (And.right (And.right (And.right (And.right (by assumption)))))) hb1)
          | (go_at_call 46; with_reducible refine (checkRule_any _ _ _ _ _ _).mono ?_; rw [H2.out]; rintro e u2 ⟨rfl, hb2⟩; have hq2 : Below W1.heap.size W1 u2 := below_thn (And.right (And.right (And.right (And.right (And.right (by assumption)))))) hb2)
          | (go_at_call 32; with_reducible refine (firstError2 (Pure.err k1 10) (Pure.err k2 13) _ _ _ (cells_top _ _ _ rfl 0) (cells_top _ _ _ rfl 1)).mono ?_; rintro e u3 ⟨rfl, hb3⟩; have hq3 : Below W1.heap.size W1 u3 := below_thn (And.right (And.right (And.right (And.right (And.right (by assumption)))))) hb3))
      all_goals
        go_wp2_with fail
        go_meet
        exact ⟨rfl, hq3⟩
  case rest =>
    obtain ⟨w1, rfl⟩ : ∃ x, x = wc := ⟨_, rfl⟩
    obtain ⟨rfl, hb⟩ := hcut
    have HA1 : Hid (w1.heap[w.heap.size]? = some (.cells #[.int .i64 b, .int .i64 lo, .int .i64 hi] 28) ∧ w1.heap[w.heap.size + 1]? = some (.cells #[.int .i64 x, .int .i64 y] 47)) := Lib.hid ⟨heap_lft HA.out.1 hb, heap_lft HA.out.2 hb⟩
    have HB1 := Lib.hid (below_thn HB.out hb)
    clear hb HK
    rw [HF.out]
    cases k1
    · go_wp2_with fail
      refine ⟨.tuple #[.slice none 0 0, .int .i64 10], ?_, none, 0, 0, by rw [HE.out]; rfl, by rw [HE.out]; rfl, fun j hj => absurd hj (Nat.not_lt_zero j), HB1.out⟩
      simp [results, Tryz.f14, go_sem]
    · cases k2
      · go_wp2_with fail
        refine ⟨.tuple #[.slice none 0 0, .int .i64 13], ?_, none, 0, 0, by rw [HE.out]; rfl, by rw [HE.out]; rfl, fun j hj => absurd hj (Nat.not_lt_zero j), HB1.out⟩
        simp [results, Tryz.f14, go_sem]
      · have m1 := H1.out
        have m2 := H2.out
        unfold Pure.okCargo at m1
        unfold Pure.okDraw at m2
        simp only [decide_eq_true_eq] at m1 m2
        obtain ⟨b1, b2, l0, l1, hb⟩ := m1
        obtain ⟨x0, x1, y0, y1⟩ := m2
        replace HE : Hid (Pure.curveE b lo hi x y = 0) := Lib.hid (by rw [HE.out]; rfl)
        have e0 := heap_cell HA1.out.1 (j := 0) rfl
        have e1 := heap_cell HA1.out.1 (j := 1) rfl
        have e2 := heap_cell HA1.out.1 (j := 2) rfl
        have g0 := heap_cell HA1.out.2 (j := 0) rfl
        have g1 := heap_cell HA1.out.2 (j := 1) rfl
        go_wp2_with fail
        refine (work_any b lo hi _).mono ?_
        rintro e w2 ⟨M, T, C, rfl, hM, hcnt, hb2⟩
        obtain ⟨bn, rfl⟩ : ∃ bn : Nat, b = bn := ⟨b.toNat, by omega⟩
        clear e0 e1 e2 g0 g1
        go_wp2_with fail
        have hs3 : Step M w2 ((w2.alloc (.cells #[.int .i64 bn, .int .i64 lo, .int .i64 hi, setsV T C] 82)).alloc (.cells #[.slice none 0 0] 48)) := ((Step.refl hcnt.memo).alloc _).alloc _
        have hlx := hcnt.lt
        obtain ⟨N0, hN0⟩ : ∃ n, w2.heap.size = n := ⟨_, rfl⟩
        have hsz3 : ((w2.alloc (.cells #[.int .i64 bn, .int .i64 lo, .int .i64 hi, setsV T C] 82)).alloc (.cells #[.slice none 0 0] 48)).heap.size = N0 + 1 + 1 := by rw [← hN0]; simp
        refine (numbers_any bn lo hi 0 0 T C _).mono ?_
        rintro e w' ⟨rfl, rfl⟩
        rw [hsz3]
        obtain ⟨W4, hW4⟩ : ∃ v, ((((w2.alloc (.cells #[.int .i64 bn, .int .i64 lo, .int .i64 hi, setsV T C] 82)).alloc (.cells #[.slice none 0 0] 48)).alloc (.cells #[.int .i64 bn, .int .i64 lo, .int .i64 hi, setsV T C] 82)).alloc (.cells #[.int .i64 0, .int .i64 0] 37)) = v := ⟨_, rfl⟩
        have hhold : W4.heap[N0]? = some (.cells #[.int .i64 bn, .int .i64 lo, .int .i64 hi, setsV T C] 82) := by rw [← hW4, ← hN0]; exact heap_up (heap_up (heap_up (heap_top _ _ rfl) _) _) _
        have hsl : W4.heap[N0 + 1]? = some (.cells #[.slice none 0 0] 48) := by rw [← hW4, ← hN0]; exact heap_up (heap_up (heap_top _ _ (by simp)) _) _
        have hh4 : W4.heap[N0 + 1 + 1]? = some (.cells #[.int .i64 bn, .int .i64 lo, .int .i64 hi, setsV T C] 82) := by rw [← hW4, ← hN0]; exact heap_up (heap_top _ _ (by simp)) _
        have hd4 : W4.heap[N0 + 1 + 1 + 1]? = some (.cells #[.int .i64 0, .int .i64 0] 37) := by rw [← hW4, ← hN0]; exact heap_top _ _ (by simp)
        have hs4 : Step M w2 W4 := by rw [← hW4]; exact ((((Step.refl hcnt.memo).alloc _).alloc _).alloc _).alloc _
        have hsz4 : W4.heap.size = N0 + 4 := by rw [← hW4, ← hN0]; simp
        rw [hW4]
        clear hW4 hs3 hsz3
        go_wp2_with fail
        have hrl2 := heap_lft HA1.out.2 hb2
        have hwn : w.heap.size + 1 < N0 := by rw [← hN0]; exact (Array.getElem?_eq_some_iff.1 hrl2).1
        have hMr : w.heap.size + 1 ≠ M := by have := (Array.getElem?_eq_some_iff.1 HA1.out.2).1; omega
        have hlx1 : M < N0 := by rw [← hN0]; exact hlx.1
        have hrl4 := hs4.heap hrl2 hMr
        have HLX := Lib.hid hlx
        have HN0 := Lib.hid hN0
        have HB2 := Lib.hid (below_thn HB1.out hb2)
        have HCNT := Lib.hid hcnt
        have HSZ4 := Lib.hid hsz4
        obtain ⟨Nn, hNn⟩ : ∃ f : Int → Int, (fun n => Pure.few bn n x y / Pure.gcd (Pure.few bn n x y) (Pure.sets bn x)) = f := ⟨_, rfl⟩
        obtain ⟨Dd, hDd⟩ : ∃ f : Int → Int, (fun n => Pure.sets bn x / Pure.gcd (Pure.few bn n x y) (Pure.sets bn x)) = f := ⟨_, rfl⟩
        have HND : Hid (∀ n, partV (Pure.few bn n x y) (Pure.sets bn x) = .agg #[.int .i64 (Nn n), .int .i64 (Dd n)]) := Lib.hid (fun n => by rw [← hNn, ← hDd])
        have HCN : Hid (Pure.curveN bn lo x y = (fun j : Nat => Nn (lo + (j : Int))) ∧ Pure.curveD bn lo x y = (fun j : Nat => Dd (lo + (j : Int)))) := Lib.hid (by rw [← hNn, ← hDd]; exact ⟨rfl, rfl⟩)
        clear hNn hDd
        refine (wpIn_wide (n := 5)).1 ?_
        refine wpIn_over_numbers 1 (b := bn) (M := M) (T := T) (C := C) (lo := lo) (hi := hi) (o := 0) (f := 0) (by omega) (Int.le_refl 0) (by decide) (Int.le_refl 0) (by decide) (hcnt.step hs4) hh4 hd4 rfl rfl
          (fun pre V => ∃ v, V.heap[N0 + 1]? = some (.cells #[v] 48) ∧ V.ownsRow W4.heap.size 31 2 v pre.length (cellsOf Nn Dd pre) ∧ V.heap[N0]? = some (.cells #[.int .i64 bn, .int .i64 lo, .int .i64 hi, setsV T C] 82) ∧ V.heap[w.heap.size + 1]? = some (.cells #[.int .i64 x, .int .i64 y] 47) ∧ Step M w2 V)
          (fun s A D row hs hg hr => by
            obtain ⟨v, g1, g2, g3, g4, g6⟩ := hs
            have hn : ∀ k, k < W4.heap.size → some k ≠ row := fun k hk e => by have := (hr k e.symm).1; omega
            exact ⟨v, (hg.block _ (Array.getElem?_eq_some_iff.1 g1).1 (hn _ (by omega))).trans g1, row_own (β := Unit) () A D row g2 hg hr, (hg.block _ (Array.getElem?_eq_some_iff.1 g3).1 (hn _ (by omega))).trans g3,
              (hg.block _ (Array.getElem?_eq_some_iff.1 g4).1 (hn _ (by omega))).trans g4, step_own (β := Unit) (by omega) HLX.out.1 () A D row g6 hg hr⟩)
          (fun s A B hc hs hst => by
            obtain ⟨v, g1, g2, g3, g4, g6⟩ := hs
            exact ⟨v, hst.heap g1 (by omega), hst.row hc.memo g2, hst.heap g3 (by omega), hst.heap g4 hMr, g6.trans hst⟩)
          ⟨_, hsl, World.ownsRow_nil _ _ _ _, hhold, hrl4, hs4⟩
          (fun z a' => a' = { tmps := #[cargoV bn lo hi, .agg #[.int .i64 x, .int .i64 y], .pointer (some ⟨w.heap.size, 0, none⟩), .pointer (some ⟨w.heap.size + 1, 0, none⟩), .slice none 0 0, .int .i64 0, .int .i64 0, .pointer (some ⟨N0, 0, none⟩), .pointer (some ⟨N0 + 1, 0, none⟩), .int .i64 z, u10, u11, u12, u13, u14, u15, u16, .int .i64 0, .bool false, undef, .agg #[.int .i64 bn, .int .i64 lo, .int .i64 hi], holdV bn lo hi T C, .agg #[.int .i64 bn, .int .i64 lo, .int .i64 hi, setsV T C], .agg #[.int .i64 0, .int .i64 0], .func (.func 78) #[] #[.pointer (some ⟨N0 + 1 + 1, 0, none⟩), .pointer (some ⟨N0 + 1 + 1 + 1, 0, none⟩)], .int .i64 z, undef, undef, undef, undef, undef, undef, undef, undef], defers := [] })
          ?assign ?body ?done
        case assign =>
          intro l z W K hK
          gi_wp2
          rfl
        case body =>
          rintro l pre z a' V hl hpx rfl hc hbh hbd ⟨v, hv, hown, hh, hrl, hst⟩
          gi_wp2_with fail
          refine wpIn_region_held (fun u => u.heap[N0 + 1]? = some (.cells #[v] 48) ∧ u.heap[N0]? = some (.cells #[.int .i64 bn, .int .i64 lo, .int .i64 hi, setsV T C] 82) ∧ u.heap[w.heap.size + 1]? = some (.cells #[.int .i64 x, .int .i64 y] 47)) 7 (by kernel_rfl) ?_
          refine heldIn_take (i := 0) (v := v) (by kernel_rfl) rfl (by kernel_rfl) (by kernel_rfl) (by kernel_rfl) (by kernel_rfl) (by kernel_rfl) (fun _ _ _ h => h) ⟨hv, hh, hrl⟩ (Or.inl ⟨by rfl, ?ld0⟩) ?rest0
          case ld0 =>
            intro u hu
            have c0 := heap_cell hu.1 (j := 0) rfl
            clear hu
            go_simp
          refine heldIn_take (i := 1) (v := holdV bn lo hi T C) (by kernel_rfl) rfl (by kernel_rfl) (by kernel_rfl) (by kernel_rfl) (by kernel_rfl) (by kernel_rfl) (fun _ _ _ h => h) ⟨hv, hh, hrl⟩ (Or.inl ⟨by rfl, ?ld1⟩) ?rest1
          case ld1 =>
            intro u hu
            have c0 := heap_cell hu.2.1 (j := 0) rfl
            have c1 := heap_cell hu.2.1 (j := 1) rfl
            have c2 := heap_cell hu.2.1 (j := 2) rfl
            have c3 := heap_cell hu.2.1 (j := 3) rfl
            clear hu
            go_simp
          refine heldIn_take (i := 2) (v := .agg #[.int .i64 x, .int .i64 y]) (by kernel_rfl) rfl (by kernel_rfl) (by kernel_rfl) (by kernel_rfl) (by kernel_rfl) (by kernel_rfl) (fun _ _ _ h => h) ⟨hv, hh, hrl⟩ (Or.inl ⟨by rfl, ?ld2⟩) ?rest2
          case ld2 =>
            intro u hu
            have c0 := heap_cell hu.2.2 (j := 0) rfl
            have c1 := heap_cell hu.2.2 (j := 1) rfl
            clear hu
            go_simp
          refine heldIn_take (i := 3) (v := .int .i64 z) (by kernel_rfl) rfl (by kernel_rfl) (by kernel_rfl) (by kernel_rfl) (by kernel_rfl) (by kernel_rfl) (fun _ _ _ h => h) ⟨hv, hh, hrl⟩ (Or.inl ⟨by rfl, ?ld3⟩) ?rest3
          case ld3 =>
            intro u hu
            go_simp
          refine heldIn_step (i := 4) rfl (by kernel_rfl) (fun K hK => ?_)
          go_simp
          have hzm := Pure.mem_nums.1 (Pure.prefix_mem hpx)
          have hz0 := hzm.1.1
          have hz1 := hzm.1.2
          have HLEN : Hid (pre.length ≤ 37) := Lib.hid (by
            have h2 := Pure.prefix_length hpx
            have h3 := Pure.nums_length bn lo hi 0 0
            simp at h2
            omega)
          have HCALL := Lib.hid (acceptsE (HND.out z) (accepts_any (M := M) (T := T) (C := C) bn lo hi z x y (by omega) (by omega) (by omega) (by omega) (by omega) (by omega) (by omega) V.drew (hc.step (Step.refl hc.memo).drew)))
          refine ⟨trivial, ?_⟩
          refine (CallsIn.inRound l (callsIn_wide.2 HCALL.out)).mono ?_
          rintro e V2 ⟨rfl, hs2d⟩
          have hs2 : Step M V V2 := (Step.refl hc.memo).drew.trans hs2d
          have hv2 := hs2.heap hv (by omega)
          have hh2 := hs2.heap hh (by omega)
          have hr2 := hs2.heap hrl hMr
          have hown2 := hs2.row hc.memo hown
          have hst2 := hst.trans hs2
          have hc2 := hc.step hs2
          have hn2 : N0 + 3 < V2.heap.size := by
            have := (Array.getElem?_eq_some_iff.1 (hs2.heap hbd (by omega))).1
            omega
          refine hK _ _ (fun _ => ⟨hv2, hh2, hr2⟩) ?_
          clear hK K
          refine heldIn_step (i := 5) rfl (by kernel_rfl) (fun K hK => ?_)
          go_simp
          obtain ⟨i0, hi0, hz0', hz1', hz2'⟩ := info_parts infoPart
          have hva := heap_up hv2 (.cells #[.int .i64 (Nn z), .int .i64 (Dd z)] 31)
          refine hK _ _ (fun _ => ⟨hva, heap_up hh2 _, heap_up hr2 _⟩) ?_
          clear hK K
          refine heldIn_step (i := 6) rfl (by kernel_rfl) (fun K hK => ?_)
          refine stepIn_append rfl _ _ 48 rfl W4.heap.size 31 i0 (.agg #[.int .i64 0, .int .i64 0]) 2 16 Tryz.underlying48 hi0 hz0' hz1' hz2' rfl (by decide) v _ _ rfl (hown2.alloc _) ⟨V2.heap.size, 0, none⟩ 1 1 [.int .i64 (Nn z), .int .i64 (Dd z)] rfl rfl (cell_two _ _ _ _ rfl) (by simp [Value.oneCell']) (by have := HLEN.out; unfold maxLen; omega) (by have := HLEN.out; omega) (by simp; omega) ?_
          intro v' w5 hown5 hgrow
          obtain ⟨g5, cap5, hv5e, _, _⟩ := World.ownsRow.form hown5 (Nat.succ_pos _)
          subst hv5e
          have keep5 : ∀ k o, k < W4.heap.size → V2.heap[k]? = some o → w5.heap[k]? = some o := fun k o hk ho => (hgrow.block k (Array.getElem?_eq_some_iff.1 (heap_up ho _)).1 (row_ne hown2 hk)).trans (heap_up ho _)
          have hv5 := keep5 _ _ (by omega) hv2
          refine hK _ _ (fun _ => ⟨hv5, keep5 _ _ (by omega) hh2, keep5 _ _ (by omega) hr2⟩) ?_
          clear hK K
          have c5 := heap_cell hv5 (j := 0) rfl
          have f5 := heap_frozen hv5 0
          have HGROW := Lib.hid hgrow
          have HOWN5 := Lib.hid hown5
          have HV2 := Lib.hid hv2
          have HH2 := Lib.hid hh2
          have HR2 := Lib.hid hr2
          have HOWN2 := Lib.hid hown2
          have HST2 := Lib.hid hst2
          have HC2 := Lib.hid hc2
          have HS2 := Lib.hid hs2
          have HBH := Lib.hid hbh
          have HBD := Lib.hid hbd
          clear hgrow hown5 hv2 hh2 hr2 hown2 hst2 hc2 hs2 hs2d hva hv5 keep5 hv hh hrl hown hst hc hbh hbd
          refine heldIn_step (i := 7) rfl (by kernel_rfl) (fun K hK => ?_)
          go_simp
          refine hK _ _ (fun h => absurd rfl h) ?_
          clear hK K
          refine heldIn_done (by kernel_rfl) ?_ _
          have zM := HLX.out
          obtain ⟨p1, p2, p3, p4, p5, p6⟩ := push_close (N := W4.heap.size + 2) (T' := 48) HC2.out HST2.out HV2.out HOWN2.out HGROW.out HOWN5.out (by omega) (by omega) (by omega) (by omega) (by omega) (by omega) (Bh := N0 + 1 + 1) (Bd := N0 + 1 + 1 + 1) (by omega) (by omega) (by omega) (by omega) (by omega) (by omega) (by omega) (by omega) (by decide)
          have k1 := HS2.out.keeps (B := W4.heap.size) (by omega)
          have k2 : KeepNum (W4.heap.size + 2) M T C (N0 + 1 + 1) (N0 + 1 + 1 + 1) V V2 := KeepNum.step HS2.out (by omega) (by omega) (by omega) (Array.getElem?_eq_some_iff.1 HBH.out).1 (Array.getElem?_eq_some_iff.1 HBD.out).1
          gi_wp2_with fail
          refine ⟨k1.trans (p1 _), k2.trans p2, _, p3, ?_, p5 _ _ (by omega) (by omega) HH2.out, p5 _ _ (by omega) (by omega) HR2.out, p6⟩
          rw [cellsOf_snoc, List.length_append]
          exact p4
        case done =>
          rintro D V hD hc ⟨v, hv, hown, hh, hrl, hst⟩ hK
          rw [Pure.nums_all l0 l1 hb] at hown
          rw [cellsOf_range, List.length_map, List.length_range] at hown
          have c0 := heap_cell hv (j := 0) rfl
          have HOWN := Lib.hid hown
          have HST := Lib.hid hst
          have HK := Lib.hid hK
          clear hv hown hh hrl hst hK hc
          gi_wp2
          go_wp2_with fail
          refine ⟨by simp, .inl ⟨_, _, rfl, run_takeDeferred HK.out, ?_⟩⟩
          have hown9 := row_own (β := Unit) (B := 0) () V _ (some D) HOWN.out (grownBy_putObj' V D (.deferred none)) (fun r e => by cases e; exact ⟨Nat.zero_le _, _, HK.out, rfl⟩)
          have hst9 := HST.out.put (by omega) HLX.out.1 HK.out (.deferred none) rfl
          obtain ⟨a, cap, rfl, hta⟩ := parts_of_row hown9 (by omega)
          refine ⟨.tuple #[.slice a (hi - lo + 1).toNat cap, .int .i64 0], ?_, a, _, cap, by rw [HE.out], by rw [HE.out]; rfl, by rw [HCN.out.1, HCN.out.2]; exact hta, ?_⟩
          · simp [results, Tryz.f14, go_sem]
          · exact below_step HB2.out hst9 HB2.out.size (by have := HB1.out.size; omega)

theorem curve_top (b lo hi x y : Int) (w : World) :
    Calls Tryz.prog 14 #[cargoV b lo hi, .agg #[.int .i64 x, .int .i64 y]] w (CurveOut (Pure.curveE b lo hi x y) (hi - lo + 1).toNat (Pure.curveN b lo x y) (Pure.curveD b lo x y) w) :=
  callsIn_wide.1 (curve_in b lo hi x y w)

end Go.Proofs.YtjegkkpdemoldaaGreatDoor

namespace Go.Proofs.YtjegkkpdemoldaaGreatDoor
open Go.RowKit Go.Shelf

namespace Pure
/-- The first of four codes that is an error. -/
def first4 (a b c d : Int) : Int := ([a, b, c, d].find? (· != 0)).getD 0
theorem first4_zero {a b c d : Int} (h : first4 a b c d = 0) : a = 0 ∧ b = 0 ∧ c = 0 ∧ d = 0 := by
  unfold first4 at h
  by_cases ha : a = 0
  · by_cases hb : b = 0
    · by_cases hc : c = 0
      · by_cases hd : d = 0
        · exact ⟨ha, hb, hc, hd⟩
        · simp [ha, hb, hc, hd] at h
      · simp [ha, hb, hc] at h
    · simp [ha, hb] at h
  · simp [ha] at h
theorem offTo_span {len : Nat} {F P : Nat → Int} (h : ∀ j, j < len → fits F P j) (o f : Int) : ∀ k, k ≤ len → 0 ≤ offTo F P o f k ∧ offTo F P o f k ≤ 1000000
  | 0, _ => by simp [offTo]
  | k + 1, hk => by
    by_cases hy : F k * o ≤ f * 100
    · rw [offTo_yes hy]
      have := h k (by omega)
      unfold fits at this
      omega
    · rw [offTo_no hy]
      exact offTo_span h o f k (by omega)
theorem off_span {len : Nat} {F P : Nat → Int} (h : okTerms len F P = true) (o f : Int) : 0 ≤ off len F P o f ∧ off len F P o f ≤ 1000000 := by
  have h2 : len ≤ 5 ∧ ∀ j, j < len → fits F P j := by unfold okTerms at h; simpa using h
  unfold off
  split
  · omega
  · exact offTo_span h2.2 o f len (Nat.le_refl _)
theorem mul_million {x y : Int} (_h0 : 0 ≤ x) (h1 : x ≤ 68719476736) (h2 : 0 ≤ y) (h3 : y ≤ 1000000) : x * y ≤ 249280325320399346 := by
  have := Int.mul_le_mul h1 h3 h2 (by decide : (0 : Int) ≤ 68719476736)
  omega
theorem mul_million' {x y : Int} (_h0 : 0 ≤ x) (h1 : x ≤ 68719476736) (h2 : 0 ≤ y) (h3 : y ≤ 1000000) : x * y ≤ 68719476736000000 := by
  have := Int.mul_le_mul h1 h3 h2 (by decide : (0 : Int) ≤ 68719476736)
  omega
/-- What all sets of o bags take off together. -/
def fair (b d o : Int) (len : Nat) (F P : Nat → Int) : Int := sum b d o (fun j => off len F P o j)
theorem fair_nonneg {b d o : Int} {len : Nat} {F P : Nat → Int} (h : okTerms len F P = true) : 0 ≤ fair b d o len F P := sumTo_nonneg (n := (o + 1).toNat) (fun j _ => (off_span h o j).1) _ (Nat.le_refl _)
theorem fair_le {b d o : Int} {len : Nat} {F P : Nat → Int} (h : okTerms len F P = true) (hb : b ≤ 36) (ho : o ≤ 36) : fair b d o len F P ≤ 2542620639232000000 := by
  have h := sumTo_le (b := b) (d := d) (o := o) (f := fun j => off len F P o j) (n := (o + 1).toNat) (B := 68719476736000000) (fun j hj => mul_million' (ways_nonneg b d o j) (ways_le hb) (off_span h o j).1 (off_span h o j).2) _ (Nat.le_refl _)
  unfold fair sum
  omega
end Pure

theorem firstError4 (a b c d : Int) (s cap : Nat) (w : World) (h0 : w.cell? ⟨s, 0, none⟩ = some (.int .i64 a)) (h1 : w.cell? ⟨s, 1, none⟩ = some (.int .i64 b)) (h2 : w.cell? ⟨s, 2, none⟩ = some (.int .i64 c)) (h3 : w.cell? ⟨s, 3, none⟩ = some (.int .i64 d)) :
    Calls Tryz.prog 32 #[.slice (some ⟨s, 0, none⟩) 4 cap] w fun e w' => e = .returned (.int .i64 (Pure.first4 a b c d)) ∧ Below w.heap.size w w' :=
  firstError_any s 4 cap [a, b, c, d] rfl (by omega) w (World.block_lt_of_cell? w _ h0) (fun j hj => by
    have : j = 0 ∨ j = 1 ∨ j = 2 ∨ j = 3 := by omega
    rcases this with rfl | rfl | rfl | rfl
    · exact h0
    · exact h1
    · exact h2
    · exact h3)

set_option maxHeartbeats 1000000 in
set_option maxRecDepth 100000 in
theorem fairOne_any (X : Nat) (a : Option Addr) (len cap : Nat) (F P : Nat → Int) (o j : Int) (hok : Pure.okTerms len F P = true) (ho0 : 0 ≤ o) (ho : o ≤ 36) (hj0 : 0 ≤ j) (hj : j ≤ o) (w : World)
    (hX : w.cell? ⟨X, 0, none⟩ = some (.slice a len cap)) (ht : TermsAt w a len F P) :
    Calls Tryz.prog 53 #[.agg #[.int .i64 o, .int .i64 j], .pointer (some ⟨X, 0, none⟩)] w fun e w' => e = .returned (.int .i64 (Pure.off len F P o j)) ∧ Below w.heap.size w w' := by
  have hX1 := cell_up hX (.cells #[.int .i64 o, .int .i64 j] 37)
  have hb : Below w.heap.size w (w.alloc (.cells #[.int .i64 o, .int .i64 j] 37)) := (Below.refl _ _).alloc (Nat.le_refl _) _
  have HT := Lib.hid (ht.below hb)
  have HB := Lib.hid hb
  have HO := Lib.hid hok
  clear hX ht hb hok
  go_enter Tryz.func53, Tryz.ntmps53
  go_wp2_with fail
  refine (off_any a len cap F P o j HO.out ho0 ho hj0 hj _ HT.out).mono ?_
  rintro e w2 ⟨rfl, hB2⟩
  have HB2 := Lib.hid hB2
  clear hB2
  go_wp2_with fail
  go_ret
  exact ⟨rfl, HB.out.trans (HB2.out.mono HB.out.size)⟩

set_option maxHeartbeats 2000000 in
set_option maxRecDepth 100000 in
/-- **Fair**. -/
theorem fair_any (b lo hi d o : Int) (a : Option Addr) (len cap : Nat) (F P : Nat → Int) (hl : len ≤ 9223372036854775807) (w : World) (ht : TermsAt w a len F P) :
    Calls Tryz.prog 16 #[cargoV b lo hi, .int .i64 d, .int .i64 o, .slice a len cap] w fun e w' => e = .returned (Pure.res2 (Pure.first4 (Pure.err (Pure.okCargo b lo hi) 10) (Pure.err (Pure.okIn lo hi d) 2) (Pure.err (Pure.okTerms len F P) 14) (Pure.err (Pure.okIn 0 b o) 2)) (partV (Pure.fair b d o len F P) (Pure.sets b o))) ∧ Below w.heap.size w w' := by
  have HT := Lib.hid ht
  clear ht
  go_enter Tryz.func16, Tryz.ntmps16
  go_upto_region 1 with fail
  obtain ⟨W1, hW1⟩ : ∃ W1, ((w.alloc (.cells #[.int .i64 b, .int .i64 lo, .int .i64 hi] 28)).alloc (.cells #[.slice a len cap] 54)).alloc (.cells #[.int .i64 0, .int .i64 0] 31) = W1 := ⟨_, rfl⟩
  have HB1 : Hid (Below w.heap.size w W1) := by rw [← hW1]; exact Lib.hid ((((Below.refl _ _).alloc (Nat.le_refl _) _).alloc (by simp) _).alloc (by simp; omega) _)
  have HSZ : Hid (W1.heap.size = w.heap.size + 3) := by rw [← hW1]; exact Lib.hid (by simp)
  have e : ∀ j v, (#[Value.int .i64 b, .int .i64 lo, .int .i64 hi])[j]? = some v → W1.cell? ⟨w.heap.size, j, none⟩ = some v := by rw [← hW1]; intro j v h; exact cell_up (cell_up ((cells_top _ _ _ rfl j).trans h) _) _
  have s0 : W1.cell? ⟨w.heap.size + 1, 0, none⟩ = some (.slice a len cap) := by rw [← hW1]; exact cell_up (cell_top _ _ _ (by simp)) _
  have r : ∀ j v, (#[Value.int .i64 0, .int .i64 0])[j]? = some v → W1.cell? ⟨w.heap.size + 1 + 1, j, none⟩ = some v := by rw [← hW1]; intro j v h; exact (cells_top _ _ _ (by simp) j).trans h
  have fr : ∀ j, W1.frozen? ⟨w.heap.size + 1 + 1, j, none⟩ = false := by rw [← hW1]; intro j; exact frozen_top _ _ _ (by simp) j
  rw [hW1]
  clear hW1
  have HK0 : Hid (W1.drew.cell? ⟨w.heap.size, 0, none⟩ = some (.int .i64 b) ∧ W1.drew.cell? ⟨w.heap.size, 1, none⟩ = some (.int .i64 lo) ∧ W1.drew.cell? ⟨w.heap.size, 2, none⟩ = some (.int .i64 hi) ∧ W1.drew.cell? ⟨w.heap.size + 1, 0, none⟩ = some (.slice a len cap) ∧ Below W1.heap.size W1 W1.drew) :=
    Lib.hid ⟨e 0 _ rfl, e 1 _ rfl, e 2 _ rfl, s0, (Below.refl _ _).drew⟩
  have HT1 : Hid (TermsAt W1 a len F P) := Lib.hid (HT.out.below HB1.out)
  have HKT : Hid (∀ u : World, (u.cell? ⟨w.heap.size, 0, none⟩ = some (.int .i64 b) ∧ u.cell? ⟨w.heap.size, 1, none⟩ = some (.int .i64 lo) ∧ u.cell? ⟨w.heap.size, 2, none⟩ = some (.int .i64 hi) ∧ u.cell? ⟨w.heap.size + 1, 0, none⟩ = some (.slice a len cap) ∧ Below W1.heap.size W1 u) → TermsAt u a len F P) := Lib.hid (fun u h => HT1.out.below h.2.2.2.2)
  have HKS : Hid (∀ u v : World, (u.cell? ⟨w.heap.size, 0, none⟩ = some (.int .i64 b) ∧ u.cell? ⟨w.heap.size, 1, none⟩ = some (.int .i64 lo) ∧ u.cell? ⟨w.heap.size, 2, none⟩ = some (.int .i64 hi) ∧ u.cell? ⟨w.heap.size + 1, 0, none⟩ = some (.slice a len cap) ∧ Below W1.heap.size W1 u) → Below u.heap.size u v →
      (v.cell? ⟨w.heap.size, 0, none⟩ = some (.int .i64 b) ∧ v.cell? ⟨w.heap.size, 1, none⟩ = some (.int .i64 lo) ∧ v.cell? ⟨w.heap.size, 2, none⟩ = some (.int .i64 hi) ∧ v.cell? ⟨w.heap.size + 1, 0, none⟩ = some (.slice a len cap) ∧ Below W1.heap.size W1 v)) :=
    Lib.hid (fun u v h k => ⟨below_cell k h.1, below_cell k h.2.1, below_cell k h.2.2.1, below_cell k h.2.2.2.1, h.2.2.2.2.trans (k.mono h.2.2.2.2.size)⟩)
  have HE := Lib.hid e
  have HS0 := Lib.hid s0
  have HR := Lib.hid r
  have HFR := Lib.hid fr
  clear e r fr s0
  go_cut [10] (fun s wx => s = .int .i64 (Pure.first4 (Pure.err (Pure.okCargo b lo hi) 10) (Pure.err (Pure.okIn lo hi d) 2) (Pure.err (Pure.okTerms len F P) 14) (Pure.err (Pure.okIn 0 b o) 2)) ∧ Below W1.heap.size W1 wx)
  case first =>
    go_region_held3 (fun w' => w'.cell? ⟨w.heap.size, 0, none⟩ = some (.int .i64 b) ∧ w'.cell? ⟨w.heap.size, 1, none⟩ = some (.int .i64 lo) ∧ w'.cell? ⟨w.heap.size, 2, none⟩ = some (.int .i64 hi) ∧ w'.cell? ⟨w.heap.size + 1, 0, none⟩ = some (.slice a len cap) ∧ Below W1.heap.size W1 w')
      (first | exact HK0.out | exact HKS.out _ _ (by assumption) (by assumption) | exact HKS.out _ _ (by assumption) ((Below.refl _ _).alloc (Nat.le_refl _) _))
      (first
        | (go_at_call 29; refine (check_any _ _ _ _).mono ?_; rintro e w' ⟨rfl, hb⟩)
        | (go_at_call 52; refine (checkTerms_any a len cap F P hl _ (HKT.out _ (by assumption))).mono ?_; rintro e w' ⟨rfl, hb⟩)
        | (go_at_call 34; refine (checkOpened_any _ _ _ _ _).mono ?_; rintro e w' ⟨rfl, hb⟩)
        | (go_at_call 33; refine (checkDirty1 _ _ _ d _ _ _ ?_).mono ?_; (first | exact cell_top _ _ _ rfl | (refine below_cell (by assumption) ?_; (first | exact cell_top _ _ _ rfl | exact cell_top_drew _ _ _ rfl | (refine below_cell (by assumption) ?_; (first | exact cell_top _ _ _ rfl | exact cell_top_drew _ _ _ rfl))))); rintro e w' ⟨rfl, hb⟩)
        | (go_at_call 32; refine (firstError4 (Pure.err (Pure.okCargo b lo hi) 10) (Pure.err (Pure.okIn lo hi d) 2) (Pure.err (Pure.okTerms len F P) 14) (Pure.err (Pure.okIn 0 b o) 2) _ _ _ (cells_top _ _ _ rfl 0) (cells_top _ _ _ rfl 1) (cells_top _ _ _ rfl 2) (cells_top _ _ _ rfl 3)).mono ?_; rintro e w' ⟨rfl, hb⟩))
    all_goals (go_wp2_with fail; go_meet; refine ⟨rfl, ?_⟩; exact And.right (And.right (And.right (And.right (by assumption)))))
  case rest =>
    obtain ⟨rfl, hBc⟩ := hcut
    obtain ⟨code, hcode⟩ : ∃ c, Pure.first4 (Pure.err (Pure.okCargo b lo hi) 10) (Pure.err (Pure.okIn lo hi d) 2) (Pure.err (Pure.okTerms len F P) 14) (Pure.err (Pure.okIn 0 b o) 2) = c := ⟨_, rfl⟩
    rw [hcode]
    have r0 := below_cell hBc (HR.out 0 _ rfl)
    have r1 := below_cell hBc (HR.out 1 _ rfl)
    have f0 := below_frozen hBc (HR.out 0 _ rfl) (HFR.out 0)
    have f1 := below_frozen hBc (HR.out 1 _ rfl) (HFR.out 1)
    have HBC := Lib.hid hBc
    have HCODE := Lib.hid hcode
    clear hBc hcode HK0 HKS HKT
    by_cases h0 : code = 0
    · subst h0
      obtain ⟨q1, q2, q4, q3⟩ := Pure.first4_zero HCODE.out
      have q1 := Pure.err_zero q1 (by decide)
      have q2 := Pure.err_zero q2 (by decide)
      have q3 := Pure.err_zero q3 (by decide)
      have q4 := Pure.err_zero q4 (by decide)
      have Q4 := Lib.hid q4
      clear q4
      unfold Pure.okCargo at q1
      unfold Pure.okIn at q2 q3
      simp only [decide_eq_true_eq] at q1 q2 q3
      obtain ⟨b1, b2, b3, b4, b5⟩ := q1
      obtain ⟨d1, d2⟩ := q2
      obtain ⟨o1, o2⟩ := q3
      have c0 := below_cell HBC.out (HE.out 0 _ rfl)
      have c1 := below_cell HBC.out (HE.out 1 _ rfl)
      have c2 := below_cell HBC.out (HE.out 2 _ rfl)
      go_wp2_with fail
      refine (work_any b lo hi _).mono ?_
      rintro e w2 ⟨M, T, C, rfl, hMw, hw2, hB2⟩
      have k2 := below_cell hB2 r0
      have k3 := below_cell hB2 r1
      have m2 := below_frozen hB2 r0 f0
      have m3 := below_frozen hB2 r1 f1
      have K2 := Lib.hid k2
      have K3 := Lib.hid k3
      have M2 := Lib.hid m2
      have M3 := Lib.hid m3
      have HMW := Lib.hid hMw
      have HB2 := Lib.hid hB2
      have HW2 := Lib.hid hw2
      clear hMw hB2 hw2 c0 c1 c2 r0 r1 f0 f1 k2 k3 m2 m3
      have HWA : Hid (Cnt (w2.alloc (.cells #[.int .i64 b, .int .i64 lo, .int .i64 hi, setsV T C] 82)) M T C) := Lib.hid (HW2.out.alloc _)
      go_wp2_with fail
      have hsl : w2.cell? ⟨w.heap.size + 1, 0, none⟩ = some (.slice a len cap) := below_cell HB2.out (below_cell HBC.out HS0.out)
      have htt : TermsAt w2 a len F P := (HT1.out.below HBC.out).below HB2.out
      have hsl2 := cell_up hsl (.cells #[.int .i64 b, .int .i64 lo, .int .i64 hi, setsV T C] 82)
      have htt2 : TermsAt (w2.alloc (.cells #[.int .i64 b, .int .i64 lo, .int .i64 hi, setsV T C] 82)) a len F P := htt.below ((Below.refl _ _).alloc (Nat.le_refl _) _)
      have HSL := Lib.hid hsl2
      have HTT := Lib.hid htt2
      clear hsl hsl2 htt htt2
      refine (sum_any b lo hi d o (by omega) b2 (by omega) (by omega) (by omega) o1 (by omega) 53 #[.pointer (some ⟨w.heap.size + 1, 0, none⟩)] (fun j => Pure.off len F P o j) _ HWA.out (enters_of Tryz.func53 (by kernel_rfl) rfl)
        (fun W hs j hj => (fairOne_any (w.heap.size + 1) a len cap F P o j Q4.out o1 (by omega) (by omega) (by omega) W (hs.cell HSL.out (cell_not_map HWA.out.memo HSL.out)) (HTT.out.step hs HWA.out.memo)).mono fun e w' h => ⟨h.1, Step.of_below h.2 hs.memo⟩)
        (fun j hj => ⟨(Pure.off_span Q4.out o j).1, Pure.mul_million (Pure.ways_nonneg _ _ _ _) (Pure.ways_le b2) (Pure.off_span Q4.out o j).1 (Pure.off_span Q4.out o j).2⟩)).mono ?_
      rintro e w3 ⟨rfl, hs3⟩
      have h30 : ∀ j v, (#[Value.int .i64 b, .int .i64 lo, .int .i64 hi, setsV T C])[j]? = some v → w3.cell? ⟨w2.heap.size, j, none⟩ = some v := fun j v h => hs3.cell ((cells_top _ _ _ rfl j).trans h) (by have := HW2.out.memo.lt; simp; omega)
      have a0 := h30 0 _ rfl
      have a1 := h30 1 _ rfl
      have a2 := h30 2 _ rfl
      have a3 := h30 3 _ rfl
      have HS3 := Lib.hid hs3
      clear hs3 h30
      go_wp2_with fail
      refine (draws_any b lo hi o b2 _ (HWA.out.step HS3.out)).mono ?_
      rintro e w4 ⟨rfl, hs4⟩
      have HS4 := Lib.hid hs4
      clear hs4
      go_wp2_with fail
      refine (part_any _ _ (Pure.fair_nonneg Q4.out) (Int.le_trans (Pure.fair_le Q4.out b2 (by omega)) (by decide)) (Pure.sets_pos o1 o2) (Int.le_trans (Pure.sets_le b2) (by decide)) _).mono ?_
      rintro e w5 ⟨rfl, hb5⟩
      have hst : Step M w2 w5 := (((Step.refl HW2.out.memo).alloc _).trans (HS3.out.trans HS4.out)).trans (Step.of_below hb5 HS4.out.memo)
      have r0 := hst.cell K2.out (cell_not_map HW2.out.memo K2.out)
      have r1 := hst.cell K3.out (cell_not_map HW2.out.memo K3.out)
      have f0 := hst.frozen K2.out (cell_not_map HW2.out.memo K2.out) M2.out
      have f1 := hst.frozen K3.out (cell_not_map HW2.out.memo K3.out) M3.out
      have HST := Lib.hid hst
      clear hst hb5 a0 a1 a2 a3
      go_wp2_with fail
      refine bodyPost_ret (v := .tuple #[partV (Pure.fair b d o len F P) (Pure.sets b o), .int .i64 0]) (by simp [results, Tryz.results16, go_sem, r0, r1]) rfl ⟨?_, ?_⟩
      · rw [HCODE.out, Pure.res2_zero rfl]
      · have z1 := HSZ.out
        have z2 := HBC.out.size
        have z3 := HB2.out.size
        have z4 := HMW.out
        have hB : Below w.heap.size w w5 := below_step ((HB1.out.trans (HBC.out.mono (by omega))).trans (HB2.out.mono (by omega))) HST.out (by omega) (by omega)
        exact (hB.setCell (p := ⟨w.heap.size + 1 + 1, 0, none⟩) (by simp; omega) _).setCell (p := ⟨w.heap.size + 1 + 1, 1, none⟩) (by simp; omega) _
    · have hne : (code != 0) = true := by simpa using h0
      have H0 := Lib.hid h0
      clear h0
      go_wp2_with fail
      refine bodyPost_ret (v := .tuple #[.agg #[.int .i64 0, .int .i64 0], .int .i64 code]) (by simp [results, Tryz.results16, go_sem, r0, r1]) rfl ⟨?_, ?_⟩
      · rw [HCODE.out, Pure.res2_err H0.out]
      · exact ((HB1.out.trans (HBC.out.mono (by have := HSZ.out; omega))).setCell (p := ⟨w.heap.size + 1 + 1, 0, none⟩) (by simp; omega) _).setCell (p := ⟨w.heap.size + 1 + 1, 1, none⟩) (by simp; omega) _

end Go.Proofs.YtjegkkpdemoldaaGreatDoor

namespace Go.Proofs.YtjegkkpdemoldaaGreatDoor
open Go.RowKit Go.Shelf

theorem exMean (w : World) : Calls Tryz.prog 7 #[cargoV 10 0 10, .int .i64 4, .int .i64 3] w fun e w' => e = .returned (.tuple #[.agg #[.int .i64 6, .int .i64 5], .int .i64 0]) ∧ Below w.heap.size w w' :=
  (mean_any 10 0 10 4 3 w).mono fun _ _ h => ⟨h.1.trans (by kernel_rfl), h.2⟩
theorem exRest (w : World) : Calls Tryz.prog 8 #[cargoV 10 0 10, .agg #[.int .i64 3, .int .i64 1]] w fun e w' => e = .returned (.tuple #[.agg #[.int .i64 7, .int .i64 0, .int .i64 7], .int .i64 0]) ∧ Below w.heap.size w w' :=
  (rest_top 10 0 10 3 1 w).mono fun _ _ h => ⟨h.1.trans (by kernel_rfl), h.2⟩
theorem exFind (w : World) : Calls Tryz.prog 11 #[cargoV 10 0 10, .int .i64 2, .agg #[.int .i64 1, .int .i64 1]] w fun e w' => e = .returned (.tuple #[.int .i64 9, .int .i64 0]) ∧ Below w.heap.size w w' :=
  (find_top 10 0 10 2 1 1 w).mono fun _ _ h => ⟨h.1.trans (by kernel_rfl), h.2⟩
theorem exAccepts (w : World) : Calls Tryz.prog 13 #[cargoV 10 0 10, .agg #[.int .i64 3, .int .i64 0], .int .i64 2] w fun e w' => e = .returned (.tuple #[.agg #[.int .i64 7, .int .i64 15], .int .i64 0]) ∧ Below w.heap.size w w' :=
  (accepts_top 10 0 10 2 3 0 w).mono fun _ _ h => ⟨h.1.trans (by kernel_rfl), h.2⟩
theorem exGood (w : World) : Calls Tryz.prog 15 #[cargoV 10 0 10, .agg #[.int .i64 3, .int .i64 0], .int .i64 1, .int .i64 5, .agg #[.int .i64 3, .int .i64 10], .agg #[.int .i64 1, .int .i64 10]] w fun e w' => e = .returned (.tuple #[.bool true, .int .i64 0]) ∧ Below w.heap.size w w' :=
  (good_top 10 0 10 3 0 1 5 3 10 1 10 w).mono fun _ _ h => ⟨h.1.trans (by kernel_rfl), h.2⟩
theorem exFair (a : Option Addr) (cap : Nat) (w : World) (h : TermsAt w a 3 exF exP) : Calls Tryz.prog 16 #[cargoV 10 0 10, .int .i64 4, .int .i64 3, .slice a 3 cap] w fun e w' => e = .returned (.tuple #[.agg #[.int .i64 2500, .int .i64 3], .int .i64 0]) ∧ Below w.heap.size w w' :=
  (fair_any 10 0 10 4 3 a 3 cap exF exP (by decide) w h).mono fun _ _ h => ⟨h.1.trans (by kernel_rfl), h.2⟩
theorem exAward1 (w : World) : Calls Tryz.prog 18 #[.int .i64 100, .int .i64 110, .int .i64 500] w fun e w' => e = .returned (.tuple #[.int .i64 105, .int .i64 0]) ∧ Below w.heap.size w w' :=
  (award_any 100 110 500 w).mono fun _ _ h => ⟨h.1.trans (by kernel_rfl), h.2⟩
theorem exAward2 (w : World) : Calls Tryz.prog 18 #[.int .i64 100, .int .i64 120, .int .i64 115] w fun e w' => e = .returned (.tuple #[.int .i64 115, .int .i64 0]) ∧ Below w.heap.size w w' :=
  (award_any 100 120 115 w).mono fun _ _ h => ⟨h.1.trans (by kernel_rfl), h.2⟩
theorem exOff0 (a : Option Addr) (cap : Nat) (w : World) (h : TermsAt w a 3 exF exP) : Calls Tryz.prog 21 #[.slice a 3 cap, .agg #[.int .i64 3, .int .i64 1]] w fun e w' => e = .returned (.tuple #[.int .i64 1000, .int .i64 0]) ∧ Below w.heap.size w w' :=
  (offTop_any a 3 cap exF exP 3 1 (by decide) w h).mono fun _ _ h => ⟨h.1.trans (by kernel_rfl), h.2⟩
theorem exOff1 (a : Option Addr) (cap : Nat) (w : World) (h : TermsAt w a 3 exF exP) : Calls Tryz.prog 21 #[.slice a 3 cap, .agg #[.int .i64 10, .int .i64 1]] w fun e w' => e = .returned (.tuple #[.int .i64 300, .int .i64 0]) ∧ Below w.heap.size w w' :=
  (offTop_any a 3 cap exF exP 10 1 (by decide) w h).mono fun _ _ h => ⟨h.1.trans (by kernel_rfl), h.2⟩
theorem exOff2 (a : Option Addr) (cap : Nat) (w : World) (h : TermsAt w a 3 exF exP) : Calls Tryz.prog 21 #[.slice a 3 cap, .agg #[.int .i64 20, .int .i64 1]] w fun e w' => e = .returned (.tuple #[.int .i64 100, .int .i64 0]) ∧ Below w.heap.size w w' :=
  (offTop_any a 3 cap exF exP 20 1 (by decide) w h).mono fun _ _ h => ⟨h.1.trans (by kernel_rfl), h.2⟩
theorem exOff3 (a : Option Addr) (cap : Nat) (w : World) (h : TermsAt w a 3 exF exP) : Calls Tryz.prog 21 #[.slice a 3 cap, .agg #[.int .i64 3, .int .i64 0]] w fun e w' => e = .returned (.tuple #[.int .i64 0, .int .i64 0]) ∧ Below w.heap.size w w' :=
  (offTop_any a 3 cap exF exP 3 0 (by decide) w h).mono fun _ _ h => ⟨h.1.trans (by kernel_rfl), h.2⟩
theorem erWays (w : World) : Calls Tryz.prog 22 #[.int .i64 37, .int .i64 0] w fun e w' => e = .returned (.tuple #[.int .i64 0, .int .i64 2]) ∧ Below w.heap.size w w' :=
  (waysTop_any 37 0 w).mono fun _ _ h => ⟨h.1.trans (by kernel_rfl), h.2⟩
theorem erChance1 (w : World) : Calls Tryz.prog 23 #[cargoV 10 4 3, .int .i64 4, .agg #[.int .i64 0, .int .i64 1]] w fun e w' => e = .returned (.tuple #[.agg #[.int .i64 0, .int .i64 0], .int .i64 10]) ∧ Below w.heap.size w w' :=
  (chance_any 10 4 3 4 0 1 w).mono fun _ _ h => ⟨h.1.trans (by kernel_rfl), h.2⟩
theorem erChance2 (w : World) : Calls Tryz.prog 23 #[cargoV 10 0 10, .int .i64 11, .agg #[.int .i64 0, .int .i64 1]] w fun e w' => e = .returned (.tuple #[.agg #[.int .i64 0, .int .i64 0], .int .i64 11]) ∧ Below w.heap.size w w' :=
  (chance_any 10 0 10 11 0 1 w).mono fun _ _ h => ⟨h.1.trans (by kernel_rfl), h.2⟩
theorem erAtMost (w : World) : Calls Tryz.prog 24 #[cargoV 10 0 10, .int .i64 11, .agg #[.int .i64 1, .int .i64 1]] w fun e w' => e = .returned (.tuple #[.agg #[.int .i64 0, .int .i64 0], .int .i64 2]) ∧ Below w.heap.size w w' :=
  (atMost_any 10 0 10 11 1 1 w).mono fun _ _ h => ⟨h.1.trans (by kernel_rfl), h.2⟩
theorem erCan (w : World) : Calls Tryz.prog 25 #[cargoV 10 0 3, .agg #[.int .i64 10, .int .i64 4]] w fun e w' => e = .returned (.tuple #[.agg #[.int .i64 0, .int .i64 0], .int .i64 8]) ∧ Below w.heap.size w w' :=
  (can_top 10 0 3 10 4 w).mono fun _ _ h => ⟨h.1.trans (by kernel_rfl), h.2⟩
theorem erRest (w : World) : Calls Tryz.prog 8 #[cargoV 10 0 10, .agg #[.int .i64 10, .int .i64 4]] w fun e w' => e = .returned (.tuple #[.agg #[.int .i64 0, .int .i64 0, .int .i64 0], .int .i64 6]) ∧ Below w.heap.size w w' :=
  (rest_top 10 0 10 10 4 w).mono fun _ _ h => ⟨h.1.trans (by kernel_rfl), h.2⟩
theorem erBound (w : World) : Calls Tryz.prog 26 #[cargoV 10 0 10, .agg #[.int .i64 1, .int .i64 1], .agg #[.int .i64 1, .int .i64 0]] w fun e w' => e = .returned (.tuple #[.int .i64 0, .int .i64 12]) ∧ Below w.heap.size w w' :=
  (bound_top 10 0 10 1 1 1 0 w).mono fun _ _ h => ⟨h.1.trans (by kernel_rfl), h.2⟩
theorem erFind (w : World) : Calls Tryz.prog 11 #[cargoV 10 0 10, .int .i64 0, .agg #[.int .i64 1, .int .i64 1000]] w fun e w' => ∃ n : Int, e = .returned (.tuple #[.int .i64 n, .int .i64 6]) ∧ Below w.heap.size w w' :=
  (find_top 10 0 10 0 1 1000 w).mono fun _ _ h => ⟨_, h.1.trans (congrArg (fun k => Ending.returned (.tuple #[.int .i64 (Pure.findV 10 0 10 0 1 1000), .int .i64 k])) (show Pure.findE 10 0 10 0 1 1000 = 6 by kernel_rfl)), h.2⟩
theorem erAccepts (w : World) : Calls Tryz.prog 13 #[cargoV 10 0 10, .agg #[.int .i64 3, .int .i64 4], .int .i64 11] w fun e w' => e = .returned (.tuple #[.agg #[.int .i64 0, .int .i64 0], .int .i64 13]) ∧ Below w.heap.size w w' :=
  (accepts_top 10 0 10 11 3 4 w).mono fun _ _ h => ⟨h.1.trans (by kernel_rfl), h.2⟩
theorem erLeast (w : World) : Calls Tryz.prog 27 #[cargoV 10 0 10, .int .i64 5, .int .i64 5, .agg #[.int .i64 1, .int .i64 1], .agg #[.int .i64 1, .int .i64 1]] w fun e w' => e = .returned (.tuple #[.agg #[.int .i64 0, .int .i64 0], .int .i64 2]) ∧ Below w.heap.size w w' :=
  (least_top 10 0 10 5 5 1 1 1 1 w).mono fun _ _ h => ⟨h.1.trans (by kernel_rfl), h.2⟩
theorem erTwice (w : World) : Calls Tryz.prog 28 #[cargoV 10 0 10, .agg #[.int .i64 2, .int .i64 0, .int .i64 4, .int .i64 0, .int .i64 0], .int .i64 1] w fun e w' => e = .returned (.tuple #[.agg #[.int .i64 0, .int .i64 0], .agg #[.int .i64 0, .int .i64 0], .int .i64 13]) ∧ Below w.heap.size w w' :=
  (twice_top 10 0 10 2 0 4 0 0 1 w).mono fun _ _ h => ⟨h.1.trans (by kernel_rfl), h.2⟩
/-- Two terms that stand in no order. -/
def erF (j : Nat) : Int := match j with
  | 0 => 5
  | _ => 6
def erP (j : Nat) : Int := match j with
  | 0 => 3
  | _ => 2
theorem erOff1 (a : Option Addr) (cap : Nat) (w : World) (h : TermsAt w a 2 erF erP) : Calls Tryz.prog 21 #[.slice a 2 cap, .agg #[.int .i64 9, .int .i64 10]] w fun e w' => e = .returned (.tuple #[.int .i64 0, .int .i64 14]) ∧ Below w.heap.size w w' :=
  (offTop_any a 2 cap erF erP 9 10 (by decide) w h).mono fun _ _ h => ⟨h.1.trans (by kernel_rfl), h.2⟩
theorem erOff2 (w : World) : Calls Tryz.prog 21 #[.slice none 0 0, .agg #[.int .i64 9, .int .i64 10]] w fun e w' => e = .returned (.tuple #[.int .i64 0, .int .i64 11]) ∧ Below w.heap.size w w' :=
  (offTop_any none 0 0 erF erP 9 10 (by decide) w (fun j hj => absurd hj (Nat.not_lt_zero j))).mono fun _ _ h => ⟨h.1.trans (by kernel_rfl), h.2⟩
theorem erFair (w : World) : Calls Tryz.prog 16 #[cargoV 10 0 10, .int .i64 4, .int .i64 11, .slice none 0 0] w fun e w' => e = .returned (.tuple #[.agg #[.int .i64 0, .int .i64 0], .int .i64 2]) ∧ Below w.heap.size w w' :=
  (fair_any 10 0 10 4 11 none 0 0 erF erP (by decide) w (fun j hj => absurd hj (Nat.not_lt_zero j))).mono fun _ _ h => ⟨h.1.trans (by kernel_rfl), h.2⟩
theorem erAward (w : World) : Calls Tryz.prog 18 #[.int .i64 0, .int .i64 1000001, .int .i64 0] w fun e w' => e = .returned (.tuple #[.int .i64 0, .int .i64 2]) ∧ Below w.heap.size w w' :=
  (award_any 0 1000001 0 w).mono fun _ _ h => ⟨h.1.trans (by kernel_rfl), h.2⟩
theorem erCheck1 (w : World) : Calls Tryz.prog 29 #[cargoV 10 4 3] w fun e w' => e = .returned (.int .i64 10) ∧ Below w.heap.size w w' :=
  (check_any 10 4 3 w).mono fun _ _ h => ⟨h.1.trans (by kernel_rfl), h.2⟩
theorem erCheck2 (w : World) : Calls Tryz.prog 29 #[cargoV 10 0 10] w fun e w' => e = .returned (.int .i64 0) ∧ Below w.heap.size w w' :=
  (check_any 10 0 10 w).mono fun _ _ h => ⟨h.1.trans (by kernel_rfl), h.2⟩
/-- What Likely answers: a slice of numbers. -/
def ListOut (L : List Int) (w : World) (e : Ending) (w' : World) : Prop := ∃ v, e = .returned (.tuple #[v, .int .i64 0]) ∧ IntsAt w' v L ∧ Below w.heap.size w w'
theorem exLikely1 (w : World) : Calls Tryz.prog 10 #[cargoV 10 0 10, .agg #[.int .i64 4, .int .i64 2]] w (ListOut [5] w) :=
  (likely_top 10 0 10 4 2 w).mono fun _ _ h => by
    obtain ⟨v, h1, h2, h3⟩ := h
    rw [show Pure.canE 10 0 10 4 2 = 0 by kernel_rfl] at h1
    rw [show Pure.likelyL 10 0 10 4 2 = [5] by kernel_rfl] at h2
    exact ⟨v, h1, IntsAt.of_row h2, h3⟩
theorem exLikely2 (w : World) : Calls Tryz.prog 10 #[cargoV 11 0 11, .agg #[.int .i64 3, .int .i64 1]] w (ListOut [3, 4] w) :=
  (likely_top 11 0 11 3 1 w).mono fun _ _ h => by
    obtain ⟨v, h1, h2, h3⟩ := h
    rw [show Pure.canE 11 0 11 3 1 = 0 by kernel_rfl] at h1
    rw [show Pure.likelyL 11 0 11 3 1 = [3, 4] by kernel_rfl] at h2
    exact ⟨v, h1, IntsAt.of_row h2, h3⟩
/-- The chances of the example's curve. -/
def cvN (j : Nat) : Int := match j with
  | 0 => 1
  | _ => 7
def cvD (j : Nat) : Int := match j with
  | 0 => 1
  | 1 => 10
  | 2 => 15
  | _ => 24
/-- What Curve answers. -/
def FourParts (w : World) (e : Ending) (w' : World) : Prop := ∃ a cap, e = .returned (.tuple #[.slice a 4 cap, .int .i64 0]) ∧ TermsAt w' a 4 cvN cvD ∧ Below w.heap.size w w'
theorem exCurve (w : World) : Calls Tryz.prog 14 #[cargoV 10 0 3, .agg #[.int .i64 3, .int .i64 0]] w (FourParts w) :=
  (curve_top 10 0 3 3 0 w).mono fun _ _ h => by
    obtain ⟨a, n, cap, h1, h2, h3, h4⟩ := h
    have hc : Pure.curveE 10 0 3 3 0 = 0 := by kernel_rfl
    rw [hc] at h1 h2
    rw [if_pos rfl] at h2
    obtain rfl : n = 4 := h2
    have hN0 : Pure.curveN 10 0 3 0 0 = cvN 0 := by kernel_rfl
    have hN1 : Pure.curveN 10 0 3 0 1 = cvN 1 := by kernel_rfl
    have hN2 : Pure.curveN 10 0 3 0 2 = cvN 2 := by kernel_rfl
    have hN3 : Pure.curveN 10 0 3 0 3 = cvN 3 := by kernel_rfl
    have hN : ∀ j, j < 4 → Pure.curveN 10 0 3 0 j = cvN j := fun j hj => by
      have : j = 0 ∨ j = 1 ∨ j = 2 ∨ j = 3 := by omega
      rcases this with rfl | rfl | rfl | rfl
      · exact hN0
      · exact hN1
      · exact hN2
      · exact hN3
    have hD0 : Pure.curveD 10 0 3 0 0 = cvD 0 := by kernel_rfl
    have hD1 : Pure.curveD 10 0 3 0 1 = cvD 1 := by kernel_rfl
    have hD2 : Pure.curveD 10 0 3 0 2 = cvD 2 := by kernel_rfl
    have hD3 : Pure.curveD 10 0 3 0 3 = cvD 3 := by kernel_rfl
    have hD : ∀ j, j < 4 → Pure.curveD 10 0 3 0 j = cvD j := fun j hj => by
      have : j = 0 ∨ j = 1 ∨ j = 2 ∨ j = 3 := by omega
      rcases this with rfl | rfl | rfl | rfl
      · exact hD0
      · exact hD1
      · exact hD2
      · exact hD3
    refine ⟨a, cap, h1, fun j hj => ?_, h4⟩
    obtain ⟨b, off, e0, e1, e2⟩ := h3 j hj
    exact ⟨b, off, e0, e1.trans (by rw [hN j hj]), e2.trans (by rw [hD j hj])⟩

end Go.Proofs.YtjegkkpdemoldaaGreatDoor
