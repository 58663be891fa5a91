/-
  The contracts of Chance, AtMost, Mean and Ways.
-/
import Derived.Test.YtmhhfopiaimhbaaMost
import Derived.Test.YtmhhfopiaimhbaaErrs
import Derived.Test.YtmhhfopiaimhbaaChecks
import Derived.Deep.DeepCutAuto
namespace Go.Proofs.Ytmhhfopiaimhbaa
open Go.RowKit Go.Shelf

namespace Pure
/-- The first of three codes that is an error. -/
def first3 (a b c : Int) : Int := ([a, b, c].find? (· != 0)).getD 0
theorem first3_zero {a b c : Int} (h : first3 a b c = 0) : a = 0 ∧ b = 0 ∧ c = 0 := by
  unfold first3 at h
  by_cases ha : a = 0
  · by_cases hb : b = 0
    · by_cases hc : c = 0
      · exact ⟨ha, hb, hc⟩
      · simp [ha, hb, hc] at h
    · simp [ha, hb] at h
  · simp [ha] at h
theorem err_zero {so : Bool} {n : Int} (h : err so n = 0) (hn : n ≠ 0) : so = true := by
  cases so
  · exact absurd h hn
  · rfl
/-- A fraction with an error: without one if the code is 0. -/
def res2 (code : Int) (v : Value) : Value := if code = 0 then .tuple #[v, .int .i64 0] else .tuple #[.agg #[.int .i64 0, .int .i64 0], .int .i64 code]
theorem res2_zero {code : Int} (h : code = 0) (v : Value) : res2 code v = .tuple #[v, .int .i64 0] := by unfold res2; rw [if_pos h]
theorem res2_err {code : Int} (h : code ≠ 0) (v : Value) : res2 code v = .tuple #[.agg #[.int .i64 0, .int .i64 0], .int .i64 code] := by unfold res2; rw [if_neg h]
end Pure

theorem bcell {W w1 : World} (hb : Below W.heap.size W w1) : (∀ b o, b < W.heap.size → w1.cell? ⟨b, o, none⟩ = W.cell? ⟨b, o, none⟩) ∧ (∀ b o, b < W.heap.size → w1.frozen? ⟨b, o, none⟩ = W.frozen? ⟨b, o, none⟩) :=
  ⟨fun b o h => hb.cell (p := ⟨b, o, none⟩) h, fun b o h => hb.frozen (p := ⟨b, o, none⟩) h⟩

theorem below_frozen {w w' : World} (h : Below w.heap.size w w') {a : Addr} {v : Value} (hc : w.cell? a = some v) (hf : w.frozen? a = false) : w'.frozen? a = false := (h.frozen (World.block_lt_of_cell? w a hc)).trans hf

theorem cell_top_drew (w : World) (v : Value) (t : TypeId) {b : Nat} (hb : b = w.heap.size) : (w.alloc (.cells #[v] t)).drew.cell? ⟨b, 0, none⟩ = some v := cell_top w v t hb

theorem firstError3 (a b c : Int) (s cap : Nat) (w : World) (h0 : w.cell? ⟨s, 0, none⟩ = some (.int .i64 a)) (h1 : w.cell? ⟨s, 1, none⟩ = some (.int .i64 b)) (h2 : w.cell? ⟨s, 2, none⟩ = some (.int .i64 c)) :
    Calls Try.prog 15 #[.slice (some ⟨s, 0, none⟩) 3 cap] w fun e w' => e = .returned (.int .i64 (Pure.first3 a b c)) ∧ Below w.heap.size w w' :=
  firstError_any s 3 cap [a, b, c] rfl (by omega) w (World.block_lt_of_cell? w _ h0) (fun j hj => by
    have : j = 0 ∨ j = 1 ∨ j = 2 := by omega
    rcases this with rfl | rfl | rfl
    · exact h0
    · exact h1
    · exact h2)

end Go.Proofs.Ytmhhfopiaimhbaa
