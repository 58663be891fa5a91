/-
  A list of weighings to be struck, held against the weighings in one pass.
-/
import Derived.Test.YtmdmfiddabmaeaaQRWithout
namespace Go.Proofs.Ytmdmfiddabmaeaa
open Go.RowKit

namespace Pure
theorem inL_iff {n : Nat} {L : Nat → Int} {x : Int} : inL n L x = true ↔ ∃ j, j < n ∧ L j = x := by
  unfold inL
  rw [List.any_eq_true]
  constructor
  · rintro ⟨j, hj, h⟩
    exact ⟨j, List.mem_range.1 hj, of_decide_eq_true h⟩
  · rintro ⟨j, hj, h⟩
    exact ⟨j, List.mem_range.2 hj, decide_eq_true h⟩
theorem kept_sorted {n : Nat} {F : Nat → Int} {m : Nat} {G : Nat → Int} (h : press n F m G = true) (len : Nat) (L : Nat → Int) : ∀ i, i < m → keptW len L G i = !inL len L (G (i * 5)) := fun i hi => by
  unfold keptW
  have h1 : inL i (fun j => G (j * 5)) (G (i * 5)) = false := by
    cases e : inL i (fun j => G (j * 5)) (G (i * 5)) with
    | false => rfl
    | true =>
      obtain ⟨j, hj, he⟩ := inL_iff.1 e
      have := press_sorted h j i hj hi
      omega
  rw [h1]
  simp
/-- How many of the list have been met behind i weighings. -/
def scanK (len : Nat) (L G : Nat → Int) : Nat → Nat
  | 0 => 0
  | i + 1 => if scanK len L G i < len ∧ L (scanK len L G i) = G (i * 5) then scanK len L G i + 1 else scanK len L G i
theorem scanK_le (len : Nat) (L G : Nat → Int) : ∀ i, scanK len L G i ≤ len
  | 0 => Nat.zero_le _
  | i + 1 => by
    have := scanK_le len L G i
    unfold scanK
    split <;> omega
theorem scanK_up (len : Nat) (L G : Nat → Int) (i : Nat) : scanK len L G i ≤ scanK len L G (i + 1) := by
  conv => rhs; unfold scanK
  split <;> omega
theorem scanK_yes {len : Nat} {L G : Nat → Int} {i : Nat} (h : scanK len L G i < len ∧ L (scanK len L G i) = G (i * 5)) : scanK len L G (i + 1) = scanK len L G i + 1 := if_pos h
theorem scanK_no {len : Nat} {L G : Nat → Int} {i : Nat} (h : ¬ (scanK len L G i < len ∧ L (scanK len L G i) = G (i * 5))) : scanK len L G (i + 1) = scanK len L G i := if_neg h
theorem scan_facts {len m : Nat} {L G : Nat → Int} (hs : ∀ i j, i < j → j < m → G (i * 5) < G (j * 5)) : ∀ i, i ≤ m → (∀ j, j < scanK len L G i → ∃ i', i' < i ∧ L j = G (i' * 5)) ∧ ∀ j, j + 1 < scanK len L G i → L j < L (j + 1)
  | 0, _ => ⟨fun j hj => by simp [scanK] at hj, fun j hj => by simp [scanK] at hj⟩
  | i + 1, hi => by
    obtain ⟨h1, h2⟩ := scan_facts (len := len) (L := L) hs i (by omega)
    by_cases hc : scanK len L G i < len ∧ L (scanK len L G i) = G (i * 5)
    · have e := scanK_yes hc
      rw [e]
      refine ⟨fun j hj => ?_, fun j hj => ?_⟩
      · by_cases g : j < scanK len L G i
        · obtain ⟨i', a1, a2⟩ := h1 j g
          exact ⟨i', by omega, a2⟩
        · obtain rfl : j = scanK len L G i := by omega
          exact ⟨i, by omega, hc.2⟩
      · by_cases g : j + 1 < scanK len L G i
        · exact h2 j g
        · have g2 : j + 1 = scanK len L G i := by omega
          obtain ⟨i', a1, a2⟩ := h1 j (by omega)
          rw [g2, hc.2, a2]
          exact hs i' i a1 (by omega)
    · have e := scanK_no hc
      rw [e]
      refine ⟨fun j hj => ?_, h2⟩
      obtain ⟨i', a1, a2⟩ := h1 j hj
      exact ⟨i', by omega, a2⟩
theorem list_up {len : Nat} {L : Nat → Int} (h : inOrder (fun j => decide (L j < L (j + 1))) len = true) : ∀ p q, p < q → q < len → L p < L q := by
  have h1 := of_decide_eq_true h
  intro p q hpq hq
  induction q with
  | zero => omega
  | succ q ih =>
    have h2 := of_decide_eq_true (h1 q (by omega))
    by_cases e : p = q
    · subst e; exact h2
    · exact Int.lt_trans (ih (by omega) (by omega)) h2
theorem scan_all {len m : Nat} {L G : Nat → Int} (hs : ∀ i j, i < j → j < m → G (i * 5) < G (j * 5)) (hL : ∀ p q, p < q → q < len → L p < L q) (hin : ∀ j, j < len → ∃ i, i < m ∧ L j = G (i * 5)) : ∀ i, i ≤ m → ∀ j, j < len → (∃ i', i' < i ∧ L j = G (i' * 5)) → j < scanK len L G i
  | 0, _, _, _, h => by obtain ⟨i', h1, _⟩ := h; omega
  | i + 1, hi, j, hj, h => by
    obtain ⟨i', h1, h2⟩ := h
    have hup := scanK_up len L G i
    by_cases g : i' < i
    · have := scan_all hs hL hin i (by omega) j hj ⟨i', g, h2⟩
      omega
    · obtain rfl : i' = i := by omega
      by_cases hk : j < scanK len L G i'
      · omega
      · by_cases hc : L (scanK len L G i') = G (i' * 5)
        · have e := scanK_yes (len := len) (L := L) (G := G) (i := i') ⟨by omega, hc⟩
          by_cases g2 : j = scanK len L G i'
          · omega
          · have := hL (scanK len L G i') j (by omega) hj
            omega
        · have g2 : scanK len L G i' ≠ j := fun e => by rw [e] at hc; exact hc h2
          have h3 := hL (scanK len L G i') j (by omega) hj
          obtain ⟨i2, h4, h5⟩ := hin (scanK len L G i') (by omega)
          have h6 : i2 < i' := by
            rcases Nat.lt_trichotomy i2 i' with g3 | g3 | g3
            · exact g3
            · subst g3; omega
            · have := hs i' i2 g3 h4; omega
          have := scan_all hs hL hin i' (by omega) (scanK len L G i') (by omega) ⟨i2, h6, h5⟩
          omega
end Pure
theorem struck_scan {n : Nat} {F : Nat → Int} {m : Nat} {G : Nat → Int} (h : Pure.press n F m G = true) {len : Nat} {L : Nat → Int} (wL : ∀ j, j < len → (Lit.int .i64 (L j)).wf = true) : struckOk len L m G ↔ ¬ Pure.scanK len L G m < len := by
  have hs := Pure.press_sorted h
  constructor
  · rintro ⟨h1, h2⟩ hlt
    have hin : ∀ j, j < len → ∃ i, i < m ∧ L j = G (i * 5) := fun j hj => by
      have h3 := h2 (L j) (wL j hj)
      rw [Pure.inL_iff.2 ⟨j, hj, rfl⟩] at h3
      have h4 : Pure.inL m (fun j => G (j * 5)) (L j) = true := by simpa using h3
      obtain ⟨i, a1, a2⟩ := Pure.inL_iff.1 h4
      exact ⟨i, a1, a2.symm⟩
    obtain ⟨i, a1, a2⟩ := hin _ hlt
    have := Pure.scan_all hs (Pure.list_up h1) hin m (Nat.le_refl _) _ hlt ⟨i, a1, a2⟩
    omega
  · intro hlt
    have hle := Pure.scanK_le len L G m
    have e : Pure.scanK len L G m = len := by omega
    obtain ⟨h1, h2⟩ := Pure.scan_facts (len := len) (L := L) hs m (Nat.le_refl _)
    rw [e] at h1 h2
    refine ⟨Pure.inOrder_yes (fun j hj => decide_eq_true (h2 j (by omega))), fun x _ => ?_⟩
    cases g : Pure.inL len L x with
    | false => rfl
    | true =>
      obtain ⟨j, hj, rfl⟩ := Pure.inL_iff.1 g
      obtain ⟨i, a1, a2⟩ := h1 j hj
      rw [Pure.inL_iff.2 ⟨i, a1, a2.symm⟩]
      rfl
end Go.Proofs.Ytmdmfiddabmaeaa
