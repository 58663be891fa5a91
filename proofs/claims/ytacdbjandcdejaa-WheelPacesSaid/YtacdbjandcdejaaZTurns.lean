/-
  The contract of turns.
-/
import Derived.Test.YtacdbjandcdejaaZPure
namespace Go.Proofs.Ytacdbjandcdejaa
open Go.RowKit

set_option maxHeartbeats 4000000 in
theorem turns_any (x b : Int) (p q : Nat) (hx : 0 ≤ x ∧ x ≤ 100000) (hp : p ≤ 2000000) (hq : 1 ≤ q) (hb : 1 ≤ b) (w : World) :
    Calls Try.prog 20 #[.int .i64 x, partV p q, .int .i64 b] w fun e w' => e = .returned (.int .i64 (Pure.turnV x p q b)) ∧ w' = w.alloc (partB p q) := by
  obtain ⟨f1, f2, f3, f4, f5, _, _⟩ := Pure.turn_facts hx hp hq hb
  obtain ⟨t, ht⟩ : ∃ z, Pure.turnV x p q b = z := ⟨_, rfl⟩
  rw [ht] at f5 ⊢
  unfold Pure.turnV at ht
  obtain ⟨s, hs⟩ : ∃ z, Int.tdiv (x * (p : Int)) (q : Int) = z := ⟨_, rfl⟩
  rw [hs] at ht f4
  obtain ⟨P, hP⟩ : ∃ z, (p : Int) = z := ⟨_, rfl⟩
  obtain ⟨Q, hQ⟩ : ∃ z, (q : Int) = z := ⟨_, rfl⟩
  rw [hP] at f1 hs ⊢
  rw [hQ] at f2 hs ⊢
  obtain ⟨y, hy⟩ : ∃ z, x * P = z := ⟨_, rfl⟩
  rw [hy] at f1 hs
  clear hx hp hq hb hP hQ
  go_enter Try.func20, Try.ntmps20
  have x0 := heap_cell (heap_top w (partB P Q) rfl) (j := 0) rfl
  have x1 := heap_cell (heap_top w (partB P Q) rfl) (j := 1) rfl
  go_wp2_with fail
  go_ret
  exact ⟨rfl, rfl⟩

end Go.Proofs.Ytacdbjandcdejaa
