/-
  Plain mathematics: the numbers with the greatest chance, found by going through all numbers of a span.
-/
import Derived.Test.YtiiecehmldipmaaMoreMath
import Derived.Test.YtiiecehmldipmaaLikely
namespace Go.Proofs.Ytiiecehmldipmaa
namespace Pure

/-- Two rising lists with the same members are one. -/
theorem rising_ext : ∀ {l m : List Int}, l.Pairwise (· < ·) → m.Pairwise (· < ·) → (∀ x, x ∈ l ↔ x ∈ m) → l = m
  | [], [], _, _, _ => rfl
  | [], y :: m, _, _, h => by have := (h y).2 (by simp); cases this
  | x :: l, [], _, _, h => by have := (h x).1 (by simp); cases this
  | x :: l, y :: m, hl, hm, h => by
    obtain ⟨h1, h2⟩ := List.pairwise_cons.1 hl
    obtain ⟨h3, h4⟩ := List.pairwise_cons.1 hm
    have hxy : x = y := by
      rcases List.mem_cons.1 ((h x).1 (by simp)) with e | e
      · exact e
      · rcases List.mem_cons.1 ((h y).2 (by simp)) with e' | e'
        · exact e'.symm
        · have := h3 x e; have := h1 y e'; omega
    subst hxy
    congr 1
    refine rising_ext h2 h4 fun z => ⟨fun hz => ?_, fun hz => ?_⟩
    · rcases List.mem_cons.1 ((h z).1 (by simp [hz])) with e | e
      · have := h1 z hz; omega
      · exact e
    · rcases List.mem_cons.1 ((h z).2 (by simp [hz])) with e | e
      · have := h3 z hz; omega
      · exact e
theorem ways_le_all {b d o f : Int} (hd0 : 0 ≤ d) (hd : d ≤ b) (ho0 : 0 ≤ o) (hf0 : 0 ≤ f) (hf : f ≤ o) : ways b d o f ≤ sets b o := by
  have h2 := few_le_all hd0 hd ho0 hf0 hf
  rw [few_eq hf0 hf, show (f + 1).toNat = f.toNat + 1 by omega, fewTo_succ, show ((f.toNat : Nat) : Int) = f by omega] at h2
  have h3 : 0 ≤ fewTo b d o f.toNat := fewTo_mono b d o (j := 0) (k := f.toNat) (by omega)
  omega
/-- So many numbers from lo on. -/
def run (lo : Int) (k : Nat) : List Int := (List.range k).map (fun (j : Nat) => lo + (j : Int))
theorem run_succ (lo : Int) (k : Nat) : run lo (k + 1) = run lo k ++ [lo + (k : Int)] := by
  unfold run
  rw [List.range_succ, List.map_append]
  rfl
theorem mem_run {lo : Int} {k : Nat} {x : Int} : x ∈ run lo k ↔ lo ≤ x ∧ x < lo + k := by
  unfold run
  rw [List.mem_map]
  constructor
  · rintro ⟨j, hj, rfl⟩
    rw [List.mem_range] at hj
    omega
  · rintro ⟨h1, h2⟩
    exact ⟨(x - lo).toNat, by rw [List.mem_range]; omega, by omega⟩
theorem run_rising (lo : Int) : ∀ k : Nat, (run lo k).Pairwise (· < ·)
  | 0 => List.Pairwise.nil
  | k + 1 => by
    rw [run_succ, List.pairwise_append]
    refine ⟨run_rising lo k, by simp, fun x hx y hy => ?_⟩
    have h1 := mem_run.1 hx
    have h2 : y = lo + k := by simpa using hy
    omega
/-- Those that are worth most, if one is worth anything. -/
def bestP (v : Int → Int) (l : List Int) : List Int := if most v l = 0 then [] else best v l
theorem bestP_more {v : Int → Int} {x : Int} {l : List Int} (h : most v l < v x) : bestP v (l ++ [x]) = [x] := by
  unfold bestP
  have h0 := most_nonneg v l
  rw [if_neg (by rw [most_snoc]; omega), best_more h]
theorem bestP_same {v : Int → Int} {x : Int} {l : List Int} (h : v x = most v l) (h0 : 0 < v x) : bestP v (l ++ [x]) = bestP v l ++ [x] := by
  unfold bestP
  rw [if_neg (by rw [most_snoc]; omega), if_neg (by omega), best_same h]
theorem bestP_zero {v : Int → Int} {x : Int} {l : List Int} (h : v x = most v l) (h0 : ¬ 0 < v x) : bestP v (l ++ [x]) = bestP v l := by
  unfold bestP
  have h1 := most_nonneg v l
  rw [if_pos (by rw [most_snoc]; omega), if_pos (by omega)]
theorem bestP_less {v : Int → Int} {x : Int} {l : List Int} (h : v x < most v l) : bestP v (l ++ [x]) = bestP v l := by
  unfold bestP
  rw [most_snoc, Int.max_eq_left (by omega), best_less h]
theorem bestP_length (v : Int → Int) (l : List Int) : (bestP v l).length ≤ l.length := by
  unfold bestP
  split
  · simp
  · exact best_length v l
theorem run_length (lo : Int) (k : Nat) : (run lo k).length = k := by simp [run]
theorem best_filter (v : Int → Int) (l : List Int) (hl : l.Pairwise (· < ·)) : (best v l).Pairwise (· < ·) := hl.filter _
theorem mem_best {v : Int → Int} {l : List Int} {x : Int} : x ∈ best v l ↔ x ∈ l ∧ v x = most v l := by
  unfold best
  rw [List.mem_filter]
  simp
/-- What is worth most of all numbers of the span is what is worth most of those that can be. -/
theorem bestP_likely {b k : Nat} {lo hi o f : Int} (hlo : 0 ≤ lo) (hb : hi ≤ b) (hk : lo + k = hi + 1) (h : some b lo hi o f = true) : bestP (fun x => ways b x o f) (run lo k) = likely b lo hi o f := by
  have hmem : ∀ x, x ∈ nums b lo hi o f ↔ x ∈ run lo k ∧ 0 < ways b x o f := fun x => by
    rw [mem_nums, mem_run]
    unfold okCan
    simp only [Bool.and_eq_true, decide_eq_true_eq]
    omega
  have hmost : most (fun x => ways b x o f) (run lo k) = most (fun x => ways b x o f) (nums b lo hi o f) := by
    apply Int.le_antisymm
    · refine most_le _ (most_nonneg _ _) fun x hx => ?_
      by_cases hp : 0 < ways b x o f
      · exact le_most (fun x => ways b x o f) ((hmem x).2 ⟨hx, hp⟩)
      · have := most_nonneg (fun x => ways b x o f) (nums b lo hi o f)
        show ways b x o f ≤ _
        omega
    · exact most_le _ (most_nonneg _ _) fun x hx => le_most (fun x => ways b x o f) ((hmem x).1 hx).1
  have hpos : 0 < most (fun x => ways b x o f) (run lo k) := by
    unfold some at h
    rw [List.any_eq_true] at h
    obtain ⟨x, h1, h2⟩ := h
    have h3 : x ∈ nums b lo hi o f := List.mem_filter.2 ⟨h1, h2⟩
    have h4 := (hmem x).1 h3
    have h5 : ways b x o f ≤ _ := le_most (fun x => ways b x o f) h4.1
    omega
  unfold bestP likely
  rw [if_neg (by omega)]
  refine rising_ext (best_filter _ _ (run_rising lo k)) (best_filter _ _ (nums_rising b lo hi o f)) fun x => ?_
  rw [mem_best, mem_best, hmost, hmem]
  constructor
  · rintro ⟨h1, h2⟩
    refine ⟨⟨h1, ?_⟩, h2⟩
    rw [← hmost] at h2
    show 0 < ways b x o f
    have h3 : ways b x o f = _ := h2
    omega
  · rintro ⟨⟨h1, _⟩, h2⟩
    exact ⟨h1, h2⟩
end Pure
end Go.Proofs.Ytiiecehmldipmaa
