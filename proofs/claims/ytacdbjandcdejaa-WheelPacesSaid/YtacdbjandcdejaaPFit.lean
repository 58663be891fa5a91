/-
  The contracts of what a plan is asked, but for Check itself.
-/
import Derived.Test.YtacdbjandcdejaaPOrd
namespace Go.Proofs.Ytacdbjandcdejaa
open Go.RowKit

namespace Pure
def days (p : PlanX) : Bool := decide (1 ≤ (p.tn : Int) ∧ (p.tn : Int) ≤ 12) && decide (0 ≤ p.fr ∧ p.fr ≤ 3652 - p.tn + 1)
def turns (p : PlanX) (T : Nat → Int) : Bool := inSpan 0 4 p.tn T && decide (sumTo T p.tn ≤ 24)
def stock (p : PlanX) : Bool := decide ((0 ≤ p.sd ∧ p.sd ≤ 30) ∧ (0 ≤ p.ck ∧ p.ck ≤ 30)) && decide (0 ≤ p.bu ∧ p.bu ≤ 4)
def isDay (p : PlanX) (d : Int) : Bool := decide (p.fr ≤ d ∧ d ≤ p.fr + p.tn - 1)
def wrongA (p : PlanX) (d l : Int) : Bool := !isDay p d || !decide (1 ≤ l ∧ l ≤ 30)
def wrongS (p : PlanX) (i s l d : Int) : Bool := !decide (1 ≤ i ∧ i ≤ 9999) || !decide (1 ≤ s ∧ s ≤ 2) || !decide (1 ≤ l ∧ l ≤ 6) || !isDay p d
def arrs (p : PlanX) (A : Nat → Int) : Bool := decide ((p.an : Int) ≤ 6) && !(List.range p.an).any (fun j => wrongA p (A (j * 2)) (A (j * 2 + 1))) && inOrder (fun j => decide (A (j * 2) ≤ A ((j + 1) * 2))) p.an
def sales (p : PlanX) (S : Nat → Int) : Bool := decide ((p.sn : Int) ≤ 8) && !(List.range p.sn).any (fun j => wrongS p (S (j * 4)) (S (j * 4 + 1)) (S (j * 4 + 2)) (S (j * 4 + 3))) && inOrder (fun j => decide (S (j * 4) < S ((j + 1) * 4))) p.sn
theorem days_span {p : PlanX} (h : days p = true) : 1 ≤ p.tn ∧ p.tn ≤ 12 ∧ 0 ≤ p.fr ∧ p.fr ≤ 3652 := by
  unfold days at h
  simp at h
  omega
end Pure

theorem isDayE {r : Bool} (p : PlanX) (day : Int) (h0 : 0 ≤ p.fr) (h1 : p.fr ≤ 3652) (hn : p.tn ≤ 40) (hr : Hid (Pure.isDay p day = r)) (w : World) :
    Calls Try.prog 61 #[planV p, .int .i64 day] w fun e w' => e = .returned (.bool r) ∧ Below w.heap.size w w' :=
  (isDay_any p day h0 h1 hn w).mono fun _ _ g => ⟨g.1.trans (ret_bool hr.out), g.2⟩

theorem fewDays_any (p : PlanX) (hn : p.tn ≤ 40) (w : World) : Calls Try.prog 43 #[planV p] w fun e w' => e = .returned (.bool (Pure.days p)) ∧ Below w.heap.size w w' := by
  obtain ⟨fr, ta, tn, tc, sd, ck, aa, an, ac, sa, sn, sc, bu⟩ := p
  simp only at hn
  unfold Pure.days
  simp only
  obtain ⟨r1, hr1⟩ : ∃ r, decide (1 ≤ (tn : Int) ∧ (tn : Int) ≤ 12) = r := ⟨_, rfl⟩
  obtain ⟨r2, hr2⟩ : ∃ r, decide (0 ≤ fr ∧ fr ≤ 3652 - (tn : Int) + 1) = r := ⟨_, rfl⟩
  rw [hr1, hr2]
  have HR1 := Lib.hid hr1
  have HR2 := Lib.hid hr2
  clear hr1 hr2
  go_enter Try.func43, Try.ntmps43
  go_wp2_with fail
  refine (within1 1 12 tn _ _ _ (first_cell _ _ _ (by simp)) r1 HR1.out).mono ?_
  rintro e w' ⟨rfl, rfl⟩
  cases r1
  · go_wp2_with fail
    go_ret
    exact ⟨rfl, by repeat (first | exact Below.refl _ _ | refine Below.alloc ?_ (by simp; try omega) _)⟩
  · go_wp2_with fail
    refine (within1 0 (3652 - tn + 1) fr _ _ _ (first_cell _ _ _ (by simp)) r2 HR2.out).mono ?_
    rintro e w' ⟨rfl, rfl⟩
    go_wp2_with fail
    go_ret
    exact ⟨rfl, by repeat (first | exact Below.refl _ _ | refine Below.alloc ?_ (by simp; try omega) _)⟩

theorem fewTurns_any (p : PlanX) (T : Nat → Int) (hn : p.tn ≤ 40) (w : World) (h : NumsAt w p.ta p.tn T) : Calls Try.prog 44 #[planV p] w fun e w' => e = .returned (.bool (Pure.turns p T)) ∧ Below w.heap.size w w' := by
  obtain ⟨fr, ta, tn, tc, sd, ck, aa, an, ac, sa, sn, sc, bu⟩ := p
  simp only at hn h
  unfold Pure.turns
  simp only
  have HN := Lib.hid h
  clear h
  obtain ⟨r1, hr1⟩ : ∃ r, Pure.inSpan 0 4 tn T = r := ⟨_, rfl⟩
  have HR1 := Lib.hid hr1
  rw [hr1]
  clear hr1
  go_enter Try.func44, Try.ntmps44
  go_wp2_with fail
  refine (within_nums 0 4 ta tn tc T (by omega) _ (HN.out.below (by repeat (first | exact Below.refl _ _ | refine Below.alloc ?_ (by simp; try omega) _)))).mono ?_
  rintro e w' ⟨rfl, rfl⟩
  rw [HR1.out]
  cases r1
  · go_wp2_with fail
    go_ret
    exact ⟨rfl, by repeat (first | exact Below.refl _ _ | refine Below.alloc ?_ (by simp; try omega) _)⟩
  · have h4 := HR1.out
    simp only [Pure.inSpan, decide_eq_true_eq] at h4
    have H4 := Lib.hid h4
    clear h4
    go_wp2_with fail
    refine (sum_any ta tn tc T hn H4.out _ (HN.out.below (by repeat (first | exact Below.refl _ _ | refine Below.alloc ?_ (by simp; try omega) _)))).mono ?_
    rintro e w' ⟨rfl, rfl⟩
    go_wp2_with fail
    go_ret
    exact ⟨rfl, by repeat (first | exact Below.refl _ _ | refine Below.alloc ?_ (by simp; try omega) _)⟩

theorem inStock_any (p : PlanX) (w : World) : Calls Try.prog 45 #[planV p] w fun e w' => e = .returned (.bool (Pure.stock p)) ∧ Below w.heap.size w w' := by
  obtain ⟨fr, ta, tn, tc, sd, ck, aa, an, ac, sa, sn, sc, bu⟩ := p
  unfold Pure.stock
  simp only
  obtain ⟨r1, hr1⟩ : ∃ r, decide ((0 ≤ sd ∧ sd ≤ 30) ∧ (0 ≤ ck ∧ ck ≤ 30)) = r := ⟨_, rfl⟩
  obtain ⟨r2, hr2⟩ : ∃ r, decide (0 ≤ bu ∧ bu ≤ 4) = r := ⟨_, rfl⟩
  rw [hr1, hr2]
  have HR1 := Lib.hid hr1
  have HR2 := Lib.hid hr2
  clear hr1 hr2
  go_enter Try.func45, Try.ntmps45
  go_wp2_with fail
  refine (within2 0 30 sd ck _ _ _ (cells_top _ _ _ (by simp) 0) (cells_top _ _ _ (by simp) 1) r1 HR1.out).mono ?_
  rintro e w' ⟨rfl, rfl⟩
  cases r1
  · go_wp2_with fail
    go_ret
    exact ⟨rfl, by repeat (first | exact Below.refl _ _ | refine Below.alloc ?_ (by simp; try omega) _)⟩
  · go_wp2_with fail
    refine (within1 0 4 bu _ _ _ (first_cell _ _ _ (by simp)) r2 HR2.out).mono ?_
    rintro e w' ⟨rfl, rfl⟩
    go_wp2_with fail
    go_ret
    exact ⟨rfl, by repeat (first | exact Below.refl _ _ | refine Below.alloc ?_ (by simp; try omega) _)⟩

/-- The closure that finds a wrong arrival. -/
theorem arrWrong_any (p : PlanX) (B : Nat) (d l : Int) (h0 : 0 ≤ p.fr) (h1 : p.fr ≤ 3652) (hn : p.tn ≤ 40) (w : World) (hB : w.heap[B]? = some (planB p)) :
    Calls Try.prog 60 #[arrV d l, .pointer (some ⟨B, 0, none⟩)] w fun e w' => e = .returned (.bool (Pure.wrongA p d l)) ∧ Below w.heap.size w w' := by
  unfold Pure.wrongA
  obtain ⟨r1, hr1⟩ : ∃ r, Pure.isDay p d = r := ⟨_, rfl⟩
  obtain ⟨r2, hr2⟩ : ∃ r, decide (1 ≤ l ∧ l ≤ 30) = r := ⟨_, rfl⟩
  rw [hr1, hr2]
  have HR1 := Lib.hid hr1
  have HR2 := Lib.hid hr2
  clear hr1 hr2
  have hx := heap_up hB (arrB d l)
  have k0 := heap_cell hx (j := 0) rfl
  have k1 := heap_cell hx (j := 1) rfl
  have k2 := heap_cell hx (j := 2) rfl
  have k3 := heap_cell hx (j := 3) rfl
  have k4 := heap_cell hx (j := 4) rfl
  have k5 := heap_cell hx (j := 5) rfl
  have k6 := heap_cell hx (j := 6) rfl
  clear hx
  go_enter Try.func60, Try.ntmps60
  go_wp2_with fail
  refine (isDayE p d h0 h1 hn HR1 _).mono ?_
  rintro e w1 ⟨rfl, hb⟩
  have HB := Lib.hid hb
  have HX := Lib.hid (heap_lft (heap_top w (arrB d l) rfl) hb)
  have x0 := heap_cell HX.out (j := 0) rfl
  have x1 := heap_cell HX.out (j := 1) rfl
  have hs : w.heap.size < w1.heap.size := by have := hb.size; simp at this; omega
  clear hb k0 k1 k2 k3 k4 k5 k6
  cases r1
  · go_wp2_with fail
    go_ret
    exact ⟨rfl, (below_new _ _).trans (HB.out.mono (by simp))⟩
  · go_wp2_with fail
    refine (within1 1 30 l _ _ _ (first_cell _ _ _ (by simp)) r2 HR2.out).mono ?_
    rintro e w' ⟨rfl, rfl⟩
    go_wp2_with fail
    go_ret
    exact ⟨rfl, (((below_new _ _).trans (HB.out.mono (by simp))).alloc (by omega) _).alloc (by simp; omega) _⟩
theorem arrOrder_any (d l d' l' : Int) (w : World) :
    Calls Try.prog 64 #[arrV d l, arrV d' l'] w fun e w' => e = .returned (.bool (decide (d ≤ d'))) ∧ Below w.heap.size w w' := by
  go_enter Try.func64, Try.ntmps64
  go_wp2_with fail
  go_ret
  exact ⟨rfl, by repeat (first | exact Below.refl _ _ | refine Below.alloc ?_ (by simp; try omega) _)⟩
theorem saleOrder_any (i s l d i' s' l' d' : Int) (w : World) :
    Calls Try.prog 68 #[saleV i s l d, saleV i' s' l' d'] w fun e w' => e = .returned (.bool (decide (i < i'))) ∧ Below w.heap.size w w' := by
  go_enter Try.func68, Try.ntmps68
  go_wp2_with fail
  go_ret
  exact ⟨rfl, by repeat (first | exact Below.refl _ _ | refine Below.alloc ?_ (by simp; try omega) _)⟩

end Go.Proofs.Ytacdbjandcdejaa
