/-
  Two pairs of teeth are compared.
-/
import Derived.Test.YtiiekecohmaipaaMRange
import Derived.ChangeKeysEq
namespace Go.Proofs.Ytiiekecohmaipaa
open Go.RowKit

abbrev meshV (x y : Int) : Value := .agg #[.int .i64 x, .int .i64 y]
abbrev meshB (x y : Int) : Obj := .cells #[.int .i64 x, .int .i64 y] 43
theorem eq_int (d : Nat) (x y : Int) (w : World) : (Op.equalIn (d + 1) 3 (.int .i64 x) (.int .i64 y)).run Try.prog w = .ok (decide (x = y)) w := by
  simp [Op.equalIn, run_underlying Try.underlying3]
  rfl
theorem part_int (xs : Array Value) (i : Nat) (v : Value) (h : xs[i]? = some v) (w : World) : (part 3 xs i).run Try.prog w = .ok v w := by
  simp [part, go_sem, h]
theorem eq_mesh (x y u v : Int) (w : World) : (Op.equalIn 10000 43 (meshV x y) (meshV u v)).run Try.prog w = .ok (decide (x = u) && decide (y = v)) w := by
  obtain ⟨i0, hi, hz0, hz1, hz2⟩ := infoInt
  have hc : Try.prog.cellsOf 3 = 1 := by kernel_rfl
  rw [show (10000 : Nat) = 9998 + 1 + 1 from rfl, run_equalIn_array w (9998 + 1) _ _ Try.underlying43 hi, hc, show List.range 2 = [0, 1] from rfl]
  have p0 : ∀ (x y : Int) (w : World), (part 3 #[.int .i64 x, .int .i64 y] 0).run Try.prog w = .ok (.int .i64 x) w := fun x y w => part_int _ 0 _ rfl w
  have p1 : ∀ (x y : Int) (w : World), (part 3 #[.int .i64 x, .int .i64 y] 1).run Try.prog w = .ok (.int .i64 y) w := fun x y w => part_int _ 1 _ rfl w
  simp only [Op.eqItems, Sem.run_bind, Nat.mul_one, p0, p1, eq_int, Result.andThen_ok]
  by_cases h : x = u
  · by_cases h2 : y = v <;> simp [h, h2, p1, eq_int]
  · simp [h]
end Go.Proofs.Ytiiekecohmaipaa
