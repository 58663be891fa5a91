/-
  The contracts of checkChances and after: a cargo at work behind a draw that some number of dirty bags explains.
-/
import Derived.Test.YtmhhfopiaimhbaaTerms
import Derived.Test.YtmhhfopiaimhbaaExplained
import Derived.Test.YtmhhfopiaimhbaaAtMost
namespace Go.Proofs.Ytmhhfopiaimhbaa
open Go.RowKit Go.Shelf

namespace Pure
def okPart (num den : Int) : Prop := 1 ≤ den ∧ den ≤ 1000 ∧ 0 ≤ num ∧ num ≤ den
instance (num den : Int) : Decidable (okPart num den) := by unfold okPart; infer_instance
/-- Whether all of some chances are valid: F their Nums, P their Dens. -/
def okParts (len : Nat) (F P : Nat → Int) : Bool := decide (∀ j, j < len → okPart (F j) (P j))
theorem okParts_true {len : Nat} {F P : Nat → Int} (h : ∀ j, j < len → okPart (F j) (P j)) : okParts len F P = true := by unfold okParts; simpa using h
theorem okParts_no {len : Nat} {F P : Nat → Int} {k : Nat} (h : k < len) (h1 : ¬ okPart (F k) (P k)) : okParts len F P = false := by
  unfold okParts
  rw [decide_eq_false_iff_not]
  intro h2
  exact h1 (h2 k h)
end Pure

set_option maxHeartbeats 2000000 in
set_option maxRecDepth 100000 in
/-- **checkChances**. -/
theorem checkChances_any (a : Option Addr) (len cap : Nat) (F P : Nat → Int) (hl : len ≤ 9223372036854775807) (w : World) (ht : TermsAt w a len F P) :
    Calls Try.prog 28 #[.slice a len cap] w fun e w' => e = .returned (.int .i64 (Pure.err (Pure.okParts len F P) 12)) ∧ Below w.heap.size w w' := by
  have HT := Lib.hid ht
  clear ht
  go_enter Try.func28, Try.ntmps28
  go_wp2_with fail
  go_loopw [4, 7] (fun _ i wr => ∃ k : Nat, k ≤ len ∧ i = .int .i64 k ∧ (∀ j, j < k → Pure.okPart (F j) (P j)) ∧ Below w.heap.size w wr) (fun _ i _ => len - (intOf i).toNat)
  case atStart => exact ⟨0, Nat.zero_le _, rfl, fun j hj => absurd hj (Nat.not_lt_zero j), Below.refl _ _⟩
  case round =>
    obtain ⟨k, hk, rfl, hF, hB⟩ := hrel
    have HFS := Lib.hid hF
    clear hF
    by_cases hk1 : k < len
    · obtain ⟨b, off, rfl, g0, g1⟩ := HT.out k hk1
      have e0 := below_cell hB g0
      have e1 := below_cell hB g1
      obtain ⟨r1, h1⟩ : ∃ r, (decide (1 ≤ P k) && decide (P k ≤ 1000)) = r := ⟨_, rfl⟩
      obtain ⟨r2, h2⟩ : ∃ r, (decide (0 ≤ F k) && decide (F k ≤ P k)) = r := ⟨_, rfl⟩
      have HFI : Hid (Pure.okPart (F k) (P k) ↔ r1 = true ∧ r2 = true) := Lib.hid (by unfold Pure.okPart; rw [← h1, ← h2]; simp; omega)
      have R1 := Lib.hid h1
      have R2 := Lib.hid h2
      have HB := Lib.hid hB
      clear h1 h2 g0 g1 hB
      go_wp2_with fail
      refine (within1 1 1000 (P k) _ 1 _ (cells_top _ _ _ (by simp) 0) r1 R1.out).mono ?_
      rintro e w' ⟨rfl, rfl⟩
      obtain ⟨W3, hW3⟩ : ∃ W3, ((wr.alloc (.cells #[.int .i64 (F k), .int .i64 (P k)] 31)).alloc (.cells #[.int .i64 (P k)] 3)).alloc (.cells #[.int .i64 1, .int .i64 1000] 23) = W3 := ⟨_, rfl⟩
      have hB3 : Below wr.heap.size wr W3 := by
        rw [← hW3]
        repeat (first | exact Below.refl _ _ | refine Below.alloc ?_ (by simp; try omega) _)
      have t0 : W3.cell? ⟨wr.heap.size, 0, none⟩ = some (.int .i64 (F k)) := by
        rw [← hW3]
        exact cell_up (cell_up (cells_top _ _ _ rfl 0) _) _
      have t1 : W3.cell? ⟨wr.heap.size, 1, none⟩ = some (.int .i64 (P k)) := by
        rw [← hW3]
        exact cell_up (cell_up (cells_top _ _ _ rfl 1) _) _
      have HB3 := Lib.hid hB3
      rw [hW3]
      clear hW3 hB3 e0 e1
      cases r1
      · go_wp2_with fail
        go_ret
        exact ⟨ret_int (by rw [Pure.okParts_no hk1 (by rw [HFI.out]; simp)]; rfl), HB.out.trans (HB3.out.mono HB.out.size)⟩
      · go_wp2_with fail
        refine (within1 0 (P k) (F k) _ 1 _ (cells_top _ _ _ (by simp) 0) r2 R2.out).mono ?_
        rintro e w' ⟨rfl, rfl⟩
        have hB5 : Below w.heap.size w ((W3.alloc (.cells #[.int .i64 (F k)] 3)).alloc (.cells #[.int .i64 0, .int .i64 (P k)] 23)) := by
          have h := HB.out.trans (HB3.out.mono HB.out.size)
          exact (h.alloc h.size _).alloc (by have := h.size; simp; omega) _
        have HB5 := Lib.hid hB5
        clear hB5
        cases r2
        · go_wp2_with fail
          go_ret
          exact ⟨ret_int (by rw [Pure.okParts_no hk1 (by rw [HFI.out]; simp)]; rfl), HB5.out⟩
        · go_wp2_with fail
          go_roundw
          case rel =>
            refine ⟨k + 1, by omega, by go_num, ?_, HB5.out⟩
            intro j hj
            by_cases hjk : j < k
            · exact HFS.out j hjk
            · obtain rfl : j = k := by omega
              rw [HFI.out]
              simp
          case measure => simp [intOf]; omega
    · obtain rfl : k = len := by omega
      go_wp2_with fail
      go_ret
      exact ⟨ret_int (by rw [Pure.okParts_true HFS.out]; rfl), hB⟩

/-- A cell behind four stores into another block. -/
theorem far4 {w : World} {n : Nat} {a : Addr} {u x y z v : Value} (hne : n ≠ a.block) (h : w.cell? a = some u) : ((((w.setCell ⟨n, 0, none⟩ x).setCell ⟨n, 1, none⟩ y).setCell ⟨n, 2, none⟩ z).setCell ⟨n, 3, none⟩ v).cell? a = some u :=
  (World.cell?_setCell_far _ _ _ _ hne).trans ((World.cell?_setCell_far _ _ _ _ hne).trans (far2 hne h))
theorem Below.put4 {n b : Nat} {w w' : World} (h : Below n w w') (hb : n ≤ b) (x y z v : Value) : Below n w ((((w'.setCell ⟨b, 0, none⟩ x).setCell ⟨b, 1, none⟩ y).setCell ⟨b, 2, none⟩ z).setCell ⟨b, 3, none⟩ v) :=
  (((h.setCell (p := ⟨b, 0, none⟩) hb _).setCell (p := ⟨b, 1, none⟩) hb _).setCell (p := ⟨b, 2, none⟩) hb _).setCell (p := ⟨b, 3, none⟩) hb _

abbrev noHold : Value := .agg #[.int .i64 0, .int .i64 0, .int .i64 0, .nilFunc]

namespace Pure
/-- The code of what is asked behind a draw. -/
def afterE (b lo hi o f : Int) (chances : Bool) : Int :=
  let code := first3 (err (okCargo b lo hi) 10) (err (okDraw b o f) 11) (err chances 12)
  if code = 0 then err (some b.toNat lo hi o f) 8 else code
end Pure

end Go.Proofs.Ytmhhfopiaimhbaa
