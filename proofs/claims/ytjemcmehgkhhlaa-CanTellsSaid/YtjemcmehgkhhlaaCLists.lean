/-
  What has come of a list of pourings, added up; what Play gives.
-/
import Derived.Test.YtjemcmehgkhhlaaCIter
namespace Go.Proofs.Ytjemcmehgkhhlaa
open Go.RowKit

namespace Pure
def bkL (l : List Yd) : Int := (l.map fun x => if x.t = 0 then (x.p.val : Int) else 0).sum
def lastL (S : Nat → Int) (l : List Yd) : Nat → Int := (l.getLast?.map (·.S)).getD S
def cleanL (l : List Yd) : Prop := ∀ x, x ∈ l → x.e = 0
theorem bkL_snoc (l : List Yd) (x : Yd) : bkL (l ++ [x]) = bkL l + (if x.t = 0 then (x.p.val : Int) else 0) := by simp [bkL]
theorem lastL_snoc (S : Nat → Int) (l : List Yd) (x : Yd) : lastL S (l ++ [x]) = x.S := by simp [lastL]
theorem cleanL_snoc {l : List Yd} {x : Yd} (h : cleanL l) (hx : x.e = 0) : cleanL (l ++ [x]) := fun y hy => by
  rcases List.mem_append.1 hy with h1 | h1
  · exact h y h1
  · obtain rfl : y = x := by simpa using h1
    exact hx
theorem bkL_bound : ∀ l : List Yd, 0 ≤ bkL l ∧ bkL l ≤ 600 * l.length
  | [] => by simp [bkL]
  | x :: l => by
    have h := bkL_bound l
    have hp := x.p.isLt
    have e : bkL (x :: l) = (if x.t = 0 then (x.p.val : Int) else 0) + bkL l := by simp [bkL]
    rw [e, List.length_cons]
    split <;> omega
/-- What has been poured back. -/
def bkS (A X S : Nat → Int) : Nat → Int
  | 0 => 0
  | i + 1 => bkS A X S i + (if X (i * 2 + 1) = 0 then ptS A X S i else 0)
theorem bk_ups {n : Nat} {A X S : Nat → Int} (h : Fine n A S) : ∀ k, (∀ j, j < k → okP n A X S j) → bkL (ups (ydOk A X S) k) = bkS A X S k
  | 0, _ => rfl
  | k + 1, hk => by
    rw [ups_succ, bkL_snoc, bk_ups h k (fun j hj => hk j (by omega)), pt_fin (fine_st h k fun j hj => hk j (by omega)) (hk k (by omega)).1]
    rfl
theorem last_ups (A X S : Nat → Int) : ∀ k, lastL S (ups (ydOk A X S) k) = stS A X S k
  | 0 => rfl
  | k + 1 => by rw [ups_succ, lastL_snoc]; rfl
theorem clean_ups (A X S : Nat → Int) (k : Nat) : cleanL (ups (ydOk A X S) k) := fun x hx => by
  obtain ⟨i, _, rfl⟩ := List.mem_map.1 hx
  rfl
theorem er_ne (n : Nat) (X : Nat → Int) (i : Nat) : erP n X i ≠ 0 := by unfold erP; split <;> omega

theorem came_bad {n len : Nat} {A X S : Nat → Int} {pre ini : List Yd} {x : Yd} (h : CamePart n len A X S pre) (hp : pre = ini ++ [x]) (hx : x.e ≠ 0) :
    ∃ j, j < len ∧ AllOk n A X S j ∧ ¬ okP n A X S j ∧ (ini.length : Int) = (j : Int) ∧ x.e = erP n X j := by
  obtain ⟨j, hj, hall, h | ⟨hlt, hno, h⟩⟩ := h
  · exact absurd (clean_ups A X S j x (by rw [← h, hp]; simp)) hx
  · obtain ⟨h1, h2⟩ := List.append_inj' (hp.symm.trans h) rfl
    obtain rfl : x = ydBad n X j := by simpa using h2
    exact ⟨j, hlt, hall, hno, by rw [h1, ups_length], rfl⟩
theorem came_all {n len : Nat} {A X S : Nat → Int} {ys : List Yd} (h : CameAll n len A X S ys) (hc : cleanL ys) : AllOk n A X S len ∧ ys = ups (ydOk A X S) len := by
  obtain ⟨j, hj, hall, ⟨rfl, h⟩ | ⟨hlt, hno, h⟩⟩ := h
  · exact ⟨hall, h⟩
  · exact absurd (hc (ydBad n X j) (by rw [h]; simp)) (er_ne n X j)
/-- What Play gives. -/
def PlayIs (n : Nat) (A : Nat → Int) (m : Nat) (B : Nat → Int) (k : Int) (len : Nat) (X : Nat → Int) (n1 : Nat) (A1 : Nat → Int) (m1 : Nat) (B1 : Nat → Int) (k1 bk pl er : Int) : Prop :=
  (cans n A m B k = false ∧ n1 = 0 ∧ m1 = 0 ∧ k1 = 0 ∧ bk = 0 ∧ pl = 0 ∧ er = 80) ∨
  (cans n A m B k = true ∧ (∃ j, j < len ∧ AllOk n A X (startS k m B) j ∧ ¬ okP n A X (startS k m B) j ∧ pl = j ∧ er = erP n X j) ∧ n1 = 0 ∧ m1 = 0 ∧ k1 = 0 ∧ bk = 0) ∨
  (cans n A m B k = true ∧ AllOk n A X (startS k m B) len ∧ n1 = n ∧ m1 = n ∧ (∀ q, q < n → A1 q = A q) ∧ (∀ q, q < n → B1 q = stS A X (startS k m B) len (q + 1)) ∧ k1 = stS A X (startS k m B) len 0 ∧ bk = bkS A X (startS k m B) len ∧ pl = 0 ∧ er = 0)
theorem fine_start {n m : Nat} {A B : Nat → Int} {k : Int} (h : cans n A m B k = true) : (1 ≤ n ∧ n ≤ 3 ∧ m = n) ∧ Fine n A (startS k m B) := by
  simp only [cans, fewC, sizesC, inSpan, holdC, stockC, Bool.and_eq_true, decide_eq_true_eq] at h
  obtain ⟨⟨⟨⟨⟨h1, h2⟩, rfl⟩, h3⟩, h4⟩, h5⟩ := h
  refine ⟨⟨by omega, by omega, rfl⟩, ⟨⟨by simp [startS]; omega, fun j hj => ?_⟩, fun q hq => ?_⟩⟩
  · have ha := h3 j hj
    have hb := h4 j hj
    have e : startS k m B (j + 1) = B j := by unfold startS; rw [if_neg (by omega), if_pos (by omega), Nat.add_sub_cancel]
    rw [e]
    omega
  · unfold startS
    by_cases h0 : q = 0
    · rw [if_pos h0]; omega
    · rw [if_neg h0]
      by_cases hqm : q ≤ m
      · rw [if_pos hqm]
        have ha := h3 (q - 1) (by omega)
        have hb := h4 (q - 1) (by omega)
        omega
      · rw [if_neg hqm]; omega
end Pure

def PlayOut (n : Nat) (A : Nat → Int) (m : Nat) (B : Nat → Int) (k : Int) (len : Nat) (X : Nat → Int) (w : World) (e : Ending) (w' : World) : Prop :=
  ∃ a1 n1 c1 b1 m1 d1 k1 bk pl er A1 B1, e = .returned (.tuple #[cansV a1 n1 c1 b1 m1 d1 k1, .int .i64 bk, .int .i64 pl, .int .i64 er]) ∧ OwnNums w' w.heap.size 3 1 a1 n1 c1 A1 ∧ OwnNums w' w.heap.size 3 1 b1 m1 d1 B1 ∧ Apart b1 a1 ∧
    Pure.PlayIs n A m B k len X n1 A1 m1 B1 k1 bk pl er ∧ Below w.heap.size w w'

/-- The boxes that the loop of Play writes. -/
def BadP (N Bs i : Nat) : Prop := i = N + 1 ∨ i = N + 1 + 1 ∨ i = N + 1 + 1 + 1 ∨ i = N + 1 + 1 + 1 + 1 ∨ i = Bs
/-- Between two rounds of it. -/
structure PlayI (w V : World) (N Bs : Nat) (S : Nat → Int) (pre : List Yd) (W : World) : Prop where
  clean : Pure.cleanL pre
  s : W.heap[Bs]? = some (insB (Pure.lastL S pre))
  r0 : W.heap[N + 1]? = some (cansB none 0 0 none 0 0 0)
  r1 : W.heap[N + 1 + 1]? = some (.cells #[.int .i64 (Pure.bkL pre)] 3)
  r2 : W.heap[N + 1 + 1 + 1]? = some (.cells #[.int .i64 (pre.length : Int)] 3)
  r3 : W.heap[N + 1 + 1 + 1 + 1]? = some (.cells #[.int .i64 0] 30)
  kept : KeptC (BadP N Bs) V W
  below : Below N w W
/-- Behind a round that has left. -/
structure PlayX (w : World) (N : Nat) (c : Code) (ini : List Yd) (x : Yd) (W : World) : Prop where
  ret : c = .ret
  clean : Pure.cleanL ini
  ne : x.e ≠ 0
  r0 : W.heap[N + 1]? = some (cansB none 0 0 none 0 0 0)
  r1 : W.heap[N + 1 + 1]? = some (.cells #[.int .i64 0] 3)
  r2 : W.heap[N + 1 + 1 + 1]? = some (.cells #[.int .i64 (ini.length : Int)] 3)
  r3 : W.heap[N + 1 + 1 + 1 + 1]? = some (.cells #[.int .i64 x.e] 30)
  below : Below N w W
theorem heap_low {W W' : World} {B i : Nat} {o : Obj} (hb : Below B W W') (hi : i < B) (h : W.heap[i]? = some o) : W'.heap[i]? = some o := (hb.block i hi).trans h
theorem PlayI.stays {w V : World} {N Bs C : Nat} {S : Nat → Int} (h1 : N + 5 ≤ C) (h2 : Bs < C) (hV : V.heap.size ≤ C) : Stays C (PlayI w V N Bs S) := fun _ W W' hb h =>
  ⟨h.clean, heap_low hb h2 h.s, heap_low hb (by omega) h.r0, heap_low hb (by omega) h.r1, heap_low hb (by omega) h.r2, heap_low hb (by omega) h.r3,
    ⟨Nat.le_trans h.kept.size hb.size, fun i o hB hi ho => heap_low hb (by have := (Array.getElem?_eq_some_iff.1 hi).1; omega) (h.kept.cells i o hB hi ho)⟩, h.below.trans (hb.mono (by omega))⟩
theorem PlayX.stays {w : World} {N C : Nat} {c : Code} (h1 : N + 5 ≤ C) : Stays C (fun pre W => ∃ ini x, pre = ini ++ [x] ∧ PlayX w N c ini x W) := fun _ W W' hb h => by
  obtain ⟨ini, x, hp, h⟩ := h
  exact ⟨ini, x, hp, h.ret, h.clean, h.ne, heap_low hb (by omega) h.r0, heap_low hb (by omega) h.r1, heap_low hb (by omega) h.r2, heap_low hb (by omega) h.r3, h.below.trans (hb.mono (by omega))⟩
theorem step_own {Bx C : Nat} {o : Obj} (ho : o.isCells = true) {p : Prop} : OwnFrom C (fun (_ : Unit) W => W.heap[Bx]? = some o ∧ p) := fun _ X Y row hs hg hr =>
  ⟨(hg.block Bx (Array.getElem?_eq_some_iff.1 hs.1).1 (fun e => by
    obtain ⟨_, u, hu, hc⟩ := hr Bx e.symm
    rw [hs.1] at hu
    cases hu
    rw [ho] at hc
    cases hc)).trans hs.1, hs.2⟩
end Go.Proofs.Ytjemcmehgkhhlaa
