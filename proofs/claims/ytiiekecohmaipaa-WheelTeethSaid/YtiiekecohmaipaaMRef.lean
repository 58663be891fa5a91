/-
  The contracts of the specification's Two, Meet and Strikes.
-/
import Derived.Test.YtiiekecohmaipaaMStrikes
namespace Go.Proofs.Ytiiekecohmaipaa
open Go.RowKit

theorem rTwo_any (x y : Int) (w : World) : Calls Try.prog 11 #[.int .i64 x, .int .i64 y] w fun e w' => e = .returned (.bool (Pure.two x y)) ∧ w = w' := by
  obtain ⟨r, hr⟩ : ∃ r, decide (6 ≤ x ∧ x ≤ 120) = r := ⟨_, rfl⟩
  obtain ⟨q, hq⟩ : ∃ q, decide (6 ≤ y ∧ y ≤ 120) = q := ⟨_, rfl⟩
  have h2 : Pure.two x y = (r && q) := by rw [← hr, ← hq, Pure.two, Bool.decide_and]
  rw [h2]
  go_enter Try.func11, Try.ntmps11
  go_wp2_with fail
  refine (rWithinE x 6 120 r hr w).mono ?_
  rintro e w1 ⟨rfl, rfl⟩
  cases r
  · go_wp2_with fail
    go_ret
    exact ⟨rfl, rfl⟩
  · go_wp2_with fail
    refine (rWithinE y 6 120 q hq w).mono ?_
    rintro e w1 ⟨rfl, rfl⟩
    go_wp2_with fail
    go_ret
    exact ⟨by simp, rfl⟩

set_option maxRecDepth 100000 in
set_option maxHeartbeats 4000000 in
theorem rMeet_any (x y : Int) (w : World) :
    Calls Try.prog 5 #[.int .i64 x, .int .i64 y] w fun e w' => ∃ t o er, e = .returned (.tuple #[.int .i64 t, .int .i64 o, .int .i64 er]) ∧ Pure.MeetIs x y t o er ∧ Below w.heap.size w w' := by
  go_enter Try.func5, Try.ntmps5
  go_wp2_with fail
  refine (rTwo_any x y w).mono ?_
  rintro e w1 ⟨rfl, rfl⟩
  by_cases ht : Pure.two x y = true
  rotate_left
  · have hf : Pure.two x y = false := by simpa using ht
    rw [hf]
    clear ht
    go_wp2_with fail
    refine bodyPost_ret (v := .tuple #[.int .i64 0, .int .i64 0, .int .i64 2]) (by simp [results, Try.results5, go_sem]; try rfl) rfl ⟨_, _, _, rfl, .inl ⟨hf, rfl, rfl, rfl⟩, Below.refl _ _⟩
  · rw [ht]
    have ht2 := ht
    unfold Pure.two at ht2
    simp only [decide_eq_true_eq] at ht2
    obtain ⟨a, rfl⟩ : ∃ a : Nat, x = a := ⟨x.toNat, by omega⟩
    obtain ⟨b, rfl⟩ : ∃ b : Nat, y = b := ⟨y.toNat, by omega⟩
    have HT := Lib.hid ht
    have HAB : Hid ((6 ≤ a ∧ a ≤ 120) ∧ (6 ≤ b ∧ b ≤ 120)) := Lib.hid (by omega)
    clear ht ht2
    go_wp2_with fail
    go_loopw [7] (fun i wr => ∃ n : Nat, 1 ≤ n ∧ n ≤ b ∧ i = .int .i64 n ∧ (∀ q, 1 ≤ q → q < n → (q * a) % b ≠ 0) ∧ wr = w) (fun i _ => b - (intOf i).toNat)
    case atStart => exact ⟨1, by omega, by have := HAB.out; omega, rfl, fun q _ _ => by omega, rfl⟩
    case round =>
      obtain ⟨n, hn1, hnb, rfl, hmin, rfl⟩ := hrel
      have HMIN := Lib.hid hmin
      have hax := HAB.out
      have hm : n * a ≤ 120 * 120 := Nat.mul_le_mul (by omega) hax.1.2
      have hw1 : IntKind.i64.wrap ((n : Int) * (a : Int)) = ((n * a : Nat) : Int) := by
        rw [show (n : Int) * (a : Int) = ((n * a : Nat) : Int) by push_cast; rfl]
        exact IntWalk.i64_in _ (by omega)
      have hb0 : ¬ b = 0 := by omega
      clear hmin
      have hcast : (n : Int) * (a : Int) % (b : Int) = ((n * a % b : Nat) : Int) := by push_cast; rfl
      by_cases hz : (n * a) % b = 0
      · have hz1 : ((n : Int) * (a : Int) % (b : Int) != 0) = false := by rw [hcast, hz]; rfl
        clear hcast
        have HZ := Lib.hid hz
        clear hz
        go_wp2_with fail
        go_region
        go_wp2_with fail
        have e1 : wrap64 ((n : Int) * (a : Int) / (b : Int)) = ((n * a / b : Nat) : Int) := by
          have h1 : n * a / b ≤ n * a := Nat.div_le_self _ _
          rw [show (n : Int) * (a : Int) / (b : Int) = ((n * a / b : Nat) : Int) by push_cast; rfl]
          obtain ⟨q, hq⟩ : ∃ q, n * a / b = q := ⟨_, rfl⟩
          rw [hq] at h1 ⊢
          unfold wrap64
          omega
        have e2 : wrap64 ((n : Int) * (a : Int) / (b : Int)) = (n : Int) * (a : Int) / (b : Int) := e1.trans (by push_cast; rfl)
        refine bodyPost_ret (v := .tuple #[.int .i64 (n : Int), .int .i64 ((n * a / b : Nat) : Int), .int .i64 0]) (by simp [results, Try.results5, go_sem, e2]) rfl ⟨_, _, _, rfl, .inr ⟨HT.out, a, b, n, rfl, rfl, ⟨hn1, HZ.out, HMIN.out⟩, rfl, rfl, rfl⟩, (Below.refl _ _).drew⟩
      · have hz1 : ((n : Int) * (a : Int) % (b : Int) != 0) = true := by
          rw [hcast]
          simpa using fun h => hz (by omega)
        clear hcast
        have HZ := Lib.hid hz
        clear hz
        go_wp2_with fail
        go_roundw
        case rel =>
          refine ⟨n + 1, by omega, ?_, by go_num, fun q g1 g2 => ?_, by trivial⟩
          · have hne : n ≠ b := fun e => HZ.out (by subst e; exact Nat.mul_mod_right n a)
            omega
          · by_cases e : q = n
            · subst e; exact HZ.out
            · exact HMIN.out q g1 (by omega)
        case measure => simp [intOf]; have hne : n ≠ b := fun e => HZ.out (by subst e; exact Nat.mul_mod_right n a); omega
end Go.Proofs.Ytiiekecohmaipaa
