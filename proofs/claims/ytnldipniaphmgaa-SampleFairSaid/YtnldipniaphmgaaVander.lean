/-
  Plain mathematics: all ways of a draw together are all its sets.
-/
import Derived.Test.YtnldipniaphmgaaRefB
namespace Go.Proofs.Ytnldipniaphmgaa
namespace Pure

/-- The sum of the first n numbers. -/
def upSum (f : Nat → Nat) : Nat → Nat
  | 0 => 0
  | n + 1 => upSum f n + f n
theorem upSum_congr {f g : Nat → Nat} : ∀ {n : Nat}, (∀ k, k < n → f k = g k) → upSum f n = upSum g n
  | 0, _ => rfl
  | n + 1, h => by
    show upSum f n + f n = upSum g n + g n
    rw [upSum_congr (fun k hk => h k (by omega)), h n (by omega)]
theorem upSum_add (f g : Nat → Nat) : ∀ n : Nat, upSum (fun k => f k + g k) n = upSum f n + upSum g n
  | 0 => rfl
  | n + 1 => by
    show upSum (fun k => f k + g k) n + (f n + g n) = upSum f n + f n + (upSum g n + g n)
    rw [upSum_add f g n]
    omega
theorem upSum_shift (f : Nat → Nat) : ∀ n : Nat, upSum f (n + 1) = f 0 + upSum (fun k => f (k + 1)) n
  | 0 => by show 0 + f 0 = f 0 + 0; omega
  | n + 1 => by
    show upSum f (n + 1) + f (n + 1) = f 0 + (upSum (fun k => f (k + 1)) n + f (n + 1))
    rw [upSum_shift f n]
    omega
theorem upSum_zero : ∀ n : Nat, upSum (fun _ => 0) n = 0
  | 0 => rfl
  | n + 1 => by show upSum (fun _ => 0) n + 0 = 0; rw [upSum_zero n]
/-- **All ways together are all sets**: of m + n things r, so many of the first m. -/
theorem vander (n : Nat) : ∀ (m r : Nat), upSum (fun k => ch m k * ch n (r - k)) (r + 1) = ch (m + n) r
  | 0, r => by
    rw [upSum_shift]
    have h : upSum (fun k => ch 0 (k + 1) * ch n (r - (k + 1))) r = upSum (fun _ => 0) r := upSum_congr (fun k _ => by
      show 0 * _ = 0
      omega)
    rw [h, upSum_zero]
    show 1 * ch n (r - 0) + 0 = ch (0 + n) r
    simp
  | m + 1, 0 => by
    show 0 + ch (m + 1) 0 * ch n (0 - 0) = ch (m + 1 + n) 0
    rw [ch_zero, ch_zero, ch_zero]
  | m + 1, r + 1 => by
    rw [upSum_shift]
    have h1 : upSum (fun k => ch (m + 1) (k + 1) * ch n (r + 1 - (k + 1))) (r + 1) = upSum (fun k => ch m k * ch n (r - k) + ch m (k + 1) * ch n (r - k)) (r + 1) := upSum_congr (fun k _ => by
      show ch (m + 1) (k + 1) * ch n (r + 1 - (k + 1)) = _
      rw [ch_succ, show r + 1 - (k + 1) = r - k by omega, Nat.add_mul])
    have h2 := upSum_add (fun k => ch m k * ch n (r - k)) (fun k => ch m (k + 1) * ch n (r - k)) (r + 1)
    have h3 := vander n m r
    have h4 := vander n m (r + 1)
    rw [upSum_shift] at h4
    have h5 : upSum (fun k => ch m (k + 1) * ch n (r + 1 - (k + 1))) (r + 1) = upSum (fun k => ch m (k + 1) * ch n (r - k)) (r + 1) := upSum_congr (fun k _ => by
      show ch m (k + 1) * ch n (r + 1 - (k + 1)) = _
      rw [show r + 1 - (k + 1) = r - k by omega])
    rw [h1, h2, h3]
    rw [h5] at h4
    have e : ch (m + 1 + n) (r + 1) = ch (m + n) r + ch (m + n) (r + 1) := by rw [show m + 1 + n = m + n + 1 by omega]; exact ch_succ _ _
    rw [e, ← h4]
    simp only [ch_zero]
    omega

theorem fewTo_sum (m n o : Nat) : ∀ k : Nat, k ≤ o + 1 → fewTo ((m : Int) + n) m o k = upSum (fun j => ch m j * ch n (o - j)) k
  | 0, _ => rfl
  | k + 1, h => by
    rw [fewTo_succ, fewTo_sum m n o k (by omega)]
    show _ = ((upSum _ k + ch m k * ch n (o - k) : Nat) : Int)
    have e : ways ((m : Int) + n) m o k = ((ch m k * ch n (o - k) : Nat) : Int) := by
      unfold ways
      rw [show (m : Int) + n - m = n by omega, show (o : Int) - k = ((o - k : Nat) : Int) by omega, sets_nat, sets_nat]
      simp
    rw [e]
    omega
theorem fewTo_mono (b d o : Int) {j : Nat} : ∀ {k : Nat}, j ≤ k → fewTo b d o j ≤ fewTo b d o k
  | 0, h => by obtain rfl : j = 0 := by omega
               exact Int.le_refl _
  | k + 1, h => by
    by_cases e : j = k + 1
    · rw [e]; exact Int.le_refl _
    · rw [fewTo_succ]
      have h1 := fewTo_mono b d o (j := j) (k := k) (by omega)
      have h2 := ways_nonneg b d o k
      omega
/-- All together are all sets. -/
theorem fewTo_all {b d o : Int} (hd0 : 0 ≤ d) (hd : d ≤ b) (ho0 : 0 ≤ o) : fewTo b d o (o + 1).toNat = sets b o := by
  obtain ⟨m, rfl⟩ : ∃ m : Nat, d = m := ⟨d.toNat, by omega⟩
  obtain ⟨n, rfl⟩ : ∃ n : Nat, b = (m : Int) + n := ⟨(b - m).toNat, by omega⟩
  obtain ⟨r, rfl⟩ : ∃ r : Nat, o = r := ⟨o.toNat, by omega⟩
  rw [show ((r : Int) + 1).toNat = r + 1 by omega, fewTo_sum m n r (r + 1) (by omega), vander, ← sets_nat, Int.natCast_add]
theorem few_le_all {b d o f : Int} (hd0 : 0 ≤ d) (hd : d ≤ b) (ho0 : 0 ≤ o) (hf0 : 0 ≤ f) (hf : f ≤ o) : few b d o f ≤ sets b o := by
  rw [few_eq hf0 hf, ← fewTo_all hd0 hd ho0]
  exact fewTo_mono b d o (by omega)
end Pure
end Go.Proofs.Ytnldipniaphmgaa
