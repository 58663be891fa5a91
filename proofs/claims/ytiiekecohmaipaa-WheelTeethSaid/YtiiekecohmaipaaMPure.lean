/-
  Arithmetic of teeth that meet: when two teeth meet again, and which ones a tooth strikes.
-/
import Derived.Test.YtiiekecohmaipaaGBase
namespace Go.Proofs.Ytiiekecohmaipaa
open Go.RowKit
namespace Pure
theorem meet_eq {a b M N : Nat} (ha : 1 ≤ a) (hM : 1 ≤ M) (hMa : M % a = 0) (hMb : M % b = 0) (hMl : ∀ n, 1 ≤ n → n < M → ¬ (n % a = 0 ∧ n % b = 0)) (hN : 1 ≤ N) (hNb : (N * a) % b = 0) (hNl : ∀ n, 1 ≤ n → n < N → (n * a) % b ≠ 0) : M = N * a := by
  have hd : M / a * a = M := by have := Nat.div_add_mod M a; rw [hMa, Nat.mul_comm] at this; omega
  have h1 : M ≤ N * a := by
    apply Decidable.byContradiction
    intro h
    exact hMl (N * a) (Nat.mul_pos hN ha) (by omega) ⟨Nat.mul_mod_left N a, hNb⟩
  have h3 : 1 ≤ M / a := by
    apply Decidable.byContradiction
    intro h
    rw [show M / a = 0 from Nat.eq_zero_of_not_pos h] at hd
    omega
  have h2 : N ≤ M / a := by
    apply Decidable.byContradiction
    intro h
    exact hNl (M / a) h3 (by omega) (by rw [hd]; exact hMb)
  have h4 := Nat.mul_le_mul_right a h2
  omega
/-- What a tooth struck within the first n meetings. -/
def st (a b t n : Nat) : List Int := ((List.range n).filter fun i => i % a = t).map fun i => ((i % b : Nat) : Int)
theorem st_succ (a b t n : Nat) : st a b t (n + 1) = st a b t n ++ (if n % a = t then [((n % b : Nat) : Int)] else []) := by
  unfold st
  rw [List.range_succ, List.filter_append, List.map_append]
  congr 1
  by_cases h : n % a = t <;> simp [h]
/-- The teeth of the other wheel that are marked. -/
def marks (p : Nat → Bool) (n : Nat) : List Int := ((List.range n).filter p).map fun i : Nat => ((i : Nat) : Int)
theorem marks_succ (p : Nat → Bool) (n : Nat) : marks p (n + 1) = marks p n ++ (if p n then [(n : Int)] else []) := by
  unfold marks
  rw [List.range_succ, List.filter_append, List.map_append]
  congr 1
  by_cases h : p n <;> simp [h]
theorem marks_sorted (p : Nat → Bool) (n : Nat) : (marks p n).Pairwise (· < ·) := by
  unfold marks
  rw [List.pairwise_map]
  exact (List.pairwise_lt_range.filter _).imp (fun h => by omega)
theorem st_nodup {a b t M : Nat} (hMl : ∀ n, 1 ≤ n → n < M → ¬ (n % a = 0 ∧ n % b = 0)) : (st a b t M).Pairwise (· ≠ ·) := by
  unfold st
  rw [List.pairwise_map]
  have h := (List.pairwise_lt_range (n := M)).filter (fun i => decide (i % a = t))
  rw [List.pairwise_iff_forall_sublist] at h ⊢
  intro i j hs e
  have hlt := h hs
  have hi := hs.subset (show i ∈ [i, j] by simp)
  have hj := hs.subset (show j ∈ [i, j] by simp)
  simp only [List.mem_filter, List.mem_range, decide_eq_true_eq] at hi hj
  refine hMl (j - i) (by omega) (by omega) ⟨?_, ?_⟩
  · exact Nat.sub_mod_eq_zero_of_mod_eq (by omega)
  · exact Nat.sub_mod_eq_zero_of_mod_eq (by omega)
theorem mem_st {a b t M : Nat} {x : Int} : x ∈ st a b t M ↔ ∃ i, i < M ∧ i % a = t ∧ ((i % b : Nat) : Int) = x := by
  unfold st
  simp [List.mem_map, List.mem_filter, and_assoc]
theorem mem_marks {p : Nat → Bool} {n : Nat} {x : Int} : x ∈ marks p n ↔ ∃ i, i < n ∧ p i = true ∧ (i : Int) = x := by
  unfold marks
  simp [List.mem_map, List.mem_filter, and_assoc]
theorem sort_marks {l : List Int} {p : Nat → Bool} {n : Nat} (hn : l.Pairwise (· ≠ ·)) (h : ∀ x, x ∈ l ↔ x ∈ marks p n) : l.mergeSort (fun x y => decide (x ≤ y)) = marks p n := by
  have hp : (l.mergeSort (fun x y => decide (x ≤ y))).Perm (marks p n) :=
    (List.mergeSort_perm l _).trans ((List.perm_ext_iff_of_nodup hn ((marks_sorted p n).imp (fun h => by omega))).2 h)
  refine hp.eq_of_pairwise (le := fun x y => x ≤ y) (fun x y _ _ h1 h2 => by omega) ?_ ((marks_sorted p n).imp (fun h => by omega))
  have := List.pairwise_mergeSort (le := fun x y : Int => decide (x ≤ y)) (fun a b c h1 h2 => by simp at *; omega) (fun a b => by simp; omega) l
  exact this.imp (fun h => by simpa using h)
theorem strikes_eq {a b M N t : Nat} (hb : 1 ≤ b) (ht : t < a) (hMN : M = N * a) (hMl : ∀ n, 1 ≤ n → n < M → ¬ (n % a = 0 ∧ n % b = 0)) {p : Nat → Bool} (hp : ∀ x, x < b → (p x = true ↔ ∃ k, k < N ∧ (k * a + t) % b = x)) :
    (st a b t M).mergeSort (fun x y => decide (x ≤ y)) = marks p b := by
  refine sort_marks (st_nodup hMl) fun x => ?_
  rw [mem_st, mem_marks]
  constructor
  · rintro ⟨i, hi, hit, rfl⟩
    refine ⟨i % b, Nat.mod_lt _ hb, (hp _ (Nat.mod_lt _ hb)).2 ⟨i / a, ?_, ?_⟩, rfl⟩
    · exact Nat.div_lt_of_lt_mul (by rw [Nat.mul_comm]; omega)
    · congr 1
      rw [← hit, Nat.mul_comm]
      exact Nat.div_add_mod i a
  · rintro ⟨x, hx, hpx, rfl⟩
    obtain ⟨k, hk, rfl⟩ := (hp x hx).1 hpx
    refine ⟨k * a + t, ?_, ?_, rfl⟩
    · have := Nat.mul_le_mul_right a (show k + 1 ≤ N by omega)
      rw [Nat.add_mul] at this
      omega
    · rw [Nat.add_comm, Nat.add_mul_mod_self_right]
      exact Nat.mod_eq_of_lt ht
theorem st_len {a b t n : Nat} (hb : 1 ≤ b) (hM : ∀ q, 1 ≤ q → q < n → ¬ (q % a = 0 ∧ q % b = 0)) : (st a b t n).length ≤ b := by
  have h := sort_marks (p := fun x => decide ((x : Int) ∈ st a b t n)) (n := b) (st_nodup hM) (fun x => by
    rw [mem_marks]
    constructor
    · intro hx
      obtain ⟨i, _, _, rfl⟩ := mem_st.1 hx
      exact ⟨i % b, Nat.mod_lt _ hb, by simpa using hx, rfl⟩
    · rintro ⟨i, _, hp, rfl⟩
      simpa using hp)
  have h2 := congrArg List.length h
  rw [List.length_mergeSort] at h2
  rw [h2]
  unfold marks
  rw [List.length_map]
  exact Nat.le_trans (List.length_filter_le _ _) (by simp)
def hit (a b t N x : Nat) : Bool := (List.range N).any fun k => decide ((k * a + t) % b = x)
theorem hit_iff {a b t N x : Nat} : hit a b t N x = true ↔ ∃ k, k < N ∧ (k * a + t) % b = x := by simp [hit]
theorem marks_len (p : Nat → Bool) (n : Nat) : (marks p n).length ≤ n := by
  unfold marks
  rw [List.length_map]
  exact Nat.le_trans (List.length_filter_le _ _) (by simp)
end Pure
theorem setCell_other {w : World} {k : Nat} {p : Addr} {v : Value} (h : k ≠ p.block) : (w.setCell p v).heap[k]? = w.heap[k]? := Below.heap_setCell _ _ _ _ h

end Go.Proofs.Ytiiekecohmaipaa
