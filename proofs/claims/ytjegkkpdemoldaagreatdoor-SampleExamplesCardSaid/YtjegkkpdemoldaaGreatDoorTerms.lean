/-
  The contracts of checkTerms and off, and of the reference's Terms and off.
-/
import Derived.Test.YtjegkkpdemoldaaGreatDoorRefC
namespace Go.Proofs.YtjegkkpdemoldaaGreatDoor
open Go.RowKit

/-- The slice value holds terms: F j and P j are the j-th's share and pence. -/
def TermsAt (w : World) (a : Option Addr) (len : Nat) (F P : Nat → Int) : Prop :=
  ∀ j, j < len → ∃ b off, a = some ⟨b, off, none⟩ ∧ w.cell? ⟨b, off + j * 2, none⟩ = some (.int .i64 (F j)) ∧ w.cell? ⟨b, off + j * 2 + 1, none⟩ = some (.int .i64 (P j))

theorem TermsAt.below {w w' : World} {a : Option Addr} {len : Nat} {F P : Nat → Int} (h : TermsAt w a len F P) (hb : Below w.heap.size w w') : TermsAt w' a len F P := fun j hj => by
  obtain ⟨b, off, h0, h1, h2⟩ := h j hj
  exact ⟨b, off, h0, below_cell hb h1, below_cell hb h2⟩
theorem TermsAt.step {M : Nat} {w w' : World} {a : Option Addr} {len : Nat} {F P : Nat → Int} (h : TermsAt w a len F P) (hs : Step M w w') (hM : Memo w M) : TermsAt w' a len F P := fun j hj => by
  obtain ⟨b, off, h0, h1, h2⟩ := h j hj
  exact ⟨b, off, h0, hs.cell h1 (cell_not_map hM h1), hs.cell h2 (cell_not_map hM h2)⟩

namespace Pure
/-- A term fits behind the one before it. -/
def fits (F P : Nat → Int) (j : Nat) : Prop := 1 ≤ F j ∧ F j ≤ 100 ∧ 0 ≤ P j ∧ P j ≤ 1000000 ∧ (0 < j → F (j - 1) < F j ∧ P (j - 1) ≤ P j)
instance (F P : Nat → Int) (j : Nat) : Decidable (fits F P j) := by unfold fits; infer_instance
def okTerms (len : Nat) (F P : Nat → Int) : Bool := decide (len ≤ 5 ∧ ∀ j, j < len → fits F P j)
theorem okTerms_true {len : Nat} {F P : Nat → Int} (h : len ≤ 5) (h1 : ∀ j, j < len → fits F P j) : okTerms len F P = true := by unfold okTerms; simpa using ⟨h, h1⟩
theorem okTerms_long {len : Nat} {F P : Nat → Int} (h : ¬ len ≤ 5) : okTerms len F P = false := by unfold okTerms; simp [h]
theorem okTerms_no {len : Nat} {F P : Nat → Int} {k : Nat} (h : k < len) (h1 : ¬ fits F P k) : okTerms len F P = false := by
  unfold okTerms
  rw [decide_eq_false_iff_not]
  rintro ⟨_, h2⟩
  exact h1 (h2 k h)
/-- What the first k terms take off. -/
def offTo (F P : Nat → Int) (o f : Int) : Nat → Int
  | 0 => 0
  | k + 1 => if F k * o ≤ f * 100 then P k else offTo F P o f k
def off (len : Nat) (F P : Nat → Int) (o f : Int) : Int := if o = 0 ∧ f = 0 then 0 else offTo F P o f len
theorem offTo_yes {F P : Nat → Int} {o f : Int} {k : Nat} (h : F k * o ≤ f * 100) : offTo F P o f (k + 1) = P k := by rw [offTo, if_pos h]
theorem offTo_no {F P : Nat → Int} {o f : Int} {k : Nat} (h : ¬ F k * o ≤ f * 100) : offTo F P o f (k + 1) = offTo F P o f k := by rw [offTo, if_neg h]
theorem mul_span {x o : Int} (h0 : 0 ≤ x) (h1 : x ≤ 100) (h2 : 0 ≤ o) (h3 : o ≤ 36) : 0 ≤ x * o ∧ x * o ≤ 3600 := by
  have a := Int.mul_nonneg h0 h2
  have b := Int.mul_le_mul h1 h3 h2 (by decide : (0 : Int) ≤ 100)
  omega
/-- What comes before the k-th term. -/
def prev (F : Nat → Int) (k : Nat) : Int := if k = 0 then 0 else F (k - 1)
theorem prev_zero (F : Nat → Int) : prev F 0 = 0 := rfl
theorem prev_succ (F : Nat → Int) (k : Nat) : prev F (k + 1) = F k := by unfold prev; simp
theorem fits_iff {F P : Nat → Int} {k : Nat} (h : ∀ j, j < k → fits F P j) : fits F P k ↔ (prev F k + 1 ≤ F k ∧ F k ≤ 100) ∧ (prev P k ≤ P k ∧ P k ≤ 1000000) := by
  cases k with
  | zero => unfold fits; rw [prev_zero, prev_zero]; simp; omega
  | succ k =>
    have := h k (by omega)
    unfold fits at this ⊢
    rw [prev_succ, prev_succ]
    simp
    omega
theorem prev_span {F P : Nat → Int} {k : Nat} (h : ∀ j, j < k → fits F P j) : 0 ≤ prev F k ∧ prev F k ≤ 100 ∧ 0 ≤ prev P k ∧ prev P k ≤ 1000000 := by
  cases k with
  | zero => rw [prev_zero, prev_zero]; decide
  | succ k =>
    have := h k (by omega)
    unfold fits at this
    rw [prev_succ, prev_succ]
    omega
end Pure

set_option maxHeartbeats 2000000 in
set_option maxRecDepth 100000 in
/-- **checkTerms**. -/
theorem checkTerms_any (a : Option Addr) (len cap : Nat) (F P : Nat → Int) (hl : len ≤ 9223372036854775807) (w : World) (ht : TermsAt w a len F P) :
    Calls Tryz.prog 52 #[.slice a len cap] w fun e w' => e = .returned (.int .i64 (Pure.err (Pure.okTerms len F P) 14)) ∧ Below w.heap.size w w' := by
  have HT := Lib.hid ht
  clear ht
  by_cases h5 : len ≤ 5
  · have h5' : ¬ ((len : Int) > 5) := by omega
    go_enter Tryz.func52, Tryz.ntmps52
    go_wp2_with fail
    go_loopw [12] (fun i wr => ∃ k : Nat, k ≤ len ∧ i = .int .i64 k ∧ (∀ j, j < k → Pure.fits F P j) ∧ Below w.heap.size w wr ∧ w.heap.size < wr.heap.size ∧
      wr.cell? ⟨w.heap.size, 0, none⟩ = some (.int .i64 (Pure.prev F k)) ∧ wr.cell? ⟨w.heap.size, 1, none⟩ = some (.int .i64 (Pure.prev P k)) ∧ wr.frozen? ⟨w.heap.size, 0, none⟩ = false ∧ wr.frozen? ⟨w.heap.size, 1, none⟩ = false) (fun i _ => len - (intOf i).toNat)
    case atStart =>
      refine ⟨0, Nat.zero_le _, rfl, fun j hj => absurd hj (Nat.not_lt_zero j), (Below.refl _ _).alloc (Nat.le_refl _) _, by simp, (cells_top _ _ _ rfl 0).trans (by rw [Pure.prev_zero]; rfl), (cells_top _ _ _ rfl 1).trans (by rw [Pure.prev_zero]; rfl), frozen_top _ _ _ rfl 0, frozen_top _ _ _ rfl 1⟩
    case round =>
      obtain ⟨k, hk, rfl, hF, hB, hS, c0, c1, f0, f1⟩ := hrel
      have HFS := Lib.hid hF
      clear hF
      by_cases hk1 : k < len
      · obtain ⟨b, off, rfl, g0, g1⟩ := HT.out k hk1
        have e0 := below_cell hB g0
        have e1 := below_cell hB g1
        have p0 := Pure.prev_span HFS.out
        obtain ⟨p1, p2, p3, p4⟩ := p0
        obtain ⟨r1, h1⟩ : ∃ r, (decide (Pure.prev F k + 1 ≤ F k) && decide (F k ≤ 100)) = r := ⟨_, rfl⟩
        obtain ⟨r2, h2⟩ : ∃ r, (decide (Pure.prev P k ≤ P k) && decide (P k ≤ 1000000)) = r := ⟨_, rfl⟩
        have HFI : Hid (Pure.fits F P k ↔ r1 = true ∧ r2 = true) := Lib.hid (by rw [Pure.fits_iff HFS.out, ← h1, ← h2]; simp)
        have R1 := Lib.hid h1
        have R2 := Lib.hid h2
        have HB := Lib.hid hB
        clear h1 h2 g0 g1 hB
        go_wp2_with fail
        refine (within1 (Pure.prev F k + 1) 100 (F k) _ 1 _ (cells_top _ _ _ (by simp) 0) r1 R1.out).mono ?_
        rintro e w' ⟨rfl, rfl⟩
        obtain ⟨W3, hW3⟩ : ∃ W3, ((wr.alloc (.cells #[.int .i64 (F k), .int .i64 (P k)] 73)).alloc (.cells #[.int .i64 (F k)] 3)).alloc (.cells #[.int .i64 (Pure.prev F k + 1), .int .i64 100] 26) = W3 := ⟨_, rfl⟩
        have hB3 : Below wr.heap.size wr W3 := by
          rw [← hW3]
          repeat (first | exact Below.refl _ _ | refine Below.alloc ?_ (by simp; try omega) _)
        have t0 : W3.cell? ⟨wr.heap.size, 0, none⟩ = some (.int .i64 (F k)) := by
          rw [← hW3]
          exact cell_up (cell_up (cells_top _ _ _ rfl 0) _) _
        have t1 : W3.cell? ⟨wr.heap.size, 1, none⟩ = some (.int .i64 (P k)) := by
          rw [← hW3]
          exact cell_up (cell_up (cells_top _ _ _ rfl 1) _) _
        have d0 := below_cell hB3 c0
        have d1 := below_cell hB3 c1
        have q0 := below_frozen hB3 c0 f0
        have q1 := below_frozen hB3 c1 f1
        have HB3 := Lib.hid hB3
        rw [hW3]
        clear hW3 hB3 e0 e1 c0 c1 f0 f1
        cases r1
        · go_wp2_with fail
          go_ret
          exact ⟨ret_int (by rw [Pure.okTerms_no hk1 (by rw [HFI.out]; simp)]; rfl), HB.out.trans (HB3.out.mono (by omega))⟩
        · go_wp2_with fail
          refine (within1 (Pure.prev P k) 1000000 (P k) _ 1 _ (cells_top _ _ _ (by simp) 0) r2 R2.out).mono ?_
          rintro e w' ⟨rfl, rfl⟩
          cases r2
          · go_wp2_with fail
            go_ret
            refine ⟨ret_int (by rw [Pure.okTerms_no hk1 (by rw [HFI.out]; simp)]; rfl), ?_⟩
            refine (HB.out.trans (HB3.out.mono (by omega))).trans (Below.mono (?_ : Below W3.heap.size W3 _) (by have := HB3.out.size; omega))
            repeat (first | exact Below.refl _ _ | refine Below.alloc ?_ (by simp; try omega) _)
          · obtain ⟨W5, hW5⟩ : ∃ W5, (W3.alloc (.cells #[.int .i64 (P k)] 3)).alloc (.cells #[.int .i64 (Pure.prev P k), .int .i64 1000000] 26) = W5 := ⟨_, rfl⟩
            have hB5' : Below W3.heap.size W3 W5 := by
              rw [← hW5]
              repeat (first | exact Below.refl _ _ | refine Below.alloc ?_ (by simp; try omega) _)
            have hB5 : Below wr.heap.size wr W5 := HB3.out.trans (hB5'.mono HB3.out.size)
            have t0 := below_cell hB5' t0
            have t1 := below_cell hB5' t1
            have q0 := below_frozen hB5' d0 q0
            have q1 := below_frozen hB5' d1 q1
            have d0 := below_cell hB5' d0
            have d1 := below_cell hB5' d1
            have HB5 := Lib.hid hB5
            have hFk : Pure.fits F P k := by rw [HFI.out]; simp
            have HFK := Lib.hid hFk
            rw [hW5]
            clear hW5 hB5 hB5' hFk
            go_wp2_with fail
            go_roundw
            case rel =>
              have hz := HB5.out.size
              refine ⟨k + 1, by omega, by go_num, ?_, ?_, ?_, ?_, ?_, ?_, ?_⟩
              · intro j hj
                by_cases hjk : j < k
                · exact HFS.out j hjk
                · obtain rfl : j = k := by omega
                  exact HFK.out
              · exact ((HB.out.trans (HB5.out.mono (by omega))).setCell (p := ⟨w.heap.size, 0, none⟩) (by simp) _).setCell (p := ⟨w.heap.size, 1, none⟩) (by simp) _
              · simp [World.setCell]; omega
              · rw [Pure.prev_succ]; go_simp
              · rw [Pure.prev_succ]; go_simp
              · go_simp
              · go_simp
            case measure => simp [intOf]; omega
      · obtain rfl : k = len := by omega
        go_wp2_with fail
        go_ret
        exact ⟨ret_int (by rw [Pure.okTerms_true h5 HFS.out]; rfl), hB⟩
  · have h5' : ((len : Int) > 5) := by omega
    go_enter Tryz.func52, Tryz.ntmps52
    go_wp2_with fail
    go_ret
    exact ⟨ret_int (by rw [Pure.okTerms_long h5]; rfl), Below.refl _ _⟩

end Go.Proofs.YtjegkkpdemoldaaGreatDoor
