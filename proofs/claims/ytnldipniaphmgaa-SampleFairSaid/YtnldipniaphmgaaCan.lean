/-
  The contract of can: whether a number of dirty bags can be after a draw.
-/
import Derived.Test.YtnldipniaphmgaaHold
import Derived.Test.YtnldipniaphmgaaUpTo
namespace Go.Proofs.Ytnldipniaphmgaa
open Go.RowKit

namespace Pure
/-- Whether a number of dirty bags can be after a draw. -/
def okCan (b lo hi o f x : Int) : Bool := (decide (lo ≤ x) && decide (x ≤ hi)) && decide (0 < ways b x o f)
/-- All numbers of dirty bags that can be after a draw. -/
def nums (b : Nat) (lo hi o f : Int) : List Int := (ints (b + 1)).filter (okCan b lo hi o f)
theorem mem_nums {b : Nat} {lo hi o f x : Int} : x ∈ nums b lo hi o f ↔ (0 ≤ x ∧ x ≤ b) ∧ okCan b lo hi o f x = true := by
  unfold nums
  rw [List.mem_filter, mem_ints]
  constructor
  · rintro ⟨h1, h2⟩
    exact ⟨⟨h1.1, by omega⟩, h2⟩
  · rintro ⟨h1, h2⟩
    exact ⟨⟨h1.1, by omega⟩, h2⟩
end Pure

set_option maxHeartbeats 1000000 in
set_option maxRecDepth 100000 in
/-- **can**. -/
theorem can_any {M T C : Nat} (b lo hi x o f : Int) (hb0 : 0 ≤ b) (hb : b ≤ 36) (hx0 : 0 ≤ x) (hx : x ≤ 36) (ho0 : 0 ≤ o) (ho : o ≤ 36) (hf0 : 0 ≤ f) (hf : f ≤ 36) (w : World) (hw : Cnt w M T C) :
    Calls Try.prog 103 #[holdV b lo hi T C, .int .i64 x, .agg #[.int .i64 o, .int .i64 f]] w fun e w' => e = .returned (.bool (Pure.okCan b lo hi o f x)) ∧ Step M w w' := by
  have hb1 : ∃ r1, (decide (lo ≤ x) && decide (x ≤ hi)) = r1 := ⟨_, rfl⟩
  obtain ⟨r1, h1⟩ := hb1
  have HF : Hid (Pure.okCan b lo hi o f x = (r1 && decide (0 < Pure.ways b x o f))) := by
    subst h1
    exact Lib.hid rfl
  have H1 := Lib.hid h1
  clear h1
  have hS := ((Step.refl hw.memo).alloc (.cells #[.int .i64 b, .int .i64 lo, .int .i64 hi, setsV T C] 104)).alloc (.cells #[.int .i64 o, .int .i64 f] 64)
  have HS := Lib.hid hS
  have HW := Lib.hid hw
  clear hS hw
  go_enter Try.func103, Try.ntmps103
  go_wp2_with fail
  refine (within1 lo hi x _ 1 _ (cells_top _ _ _ (by simp) 0) r1 H1.out).mono ?_
  rintro e w' ⟨rfl, rfl⟩
  cases r1
  · go_wp2_with fail
    go_ret
    exact ⟨ret_bool (by rw [HF.out]; rfl), (HS.out.alloc _).alloc _⟩
  · go_wp2_with fail
    refine (ways_any b lo hi x o f hb0 hb (by omega) hx (by omega) ho0 ho hf0 hf _ (HW.out.step ((HS.out.alloc _).alloc _))).mono ?_
    rintro e w' ⟨rfl, hs⟩
    have HS2 := Lib.hid hs
    clear hs
    by_cases hp : 0 < Pure.ways b x o f
    · go_wp2_with fail
      go_ret
      exact ⟨ret_bool (by rw [HF.out]; simp [hp]), ((HS.out.alloc _).alloc _).trans HS2.out⟩
    · go_wp2_with fail
      go_ret
      exact ⟨ret_bool (by rw [HF.out]; simp), ((HS.out.alloc _).alloc _).trans HS2.out⟩

end Go.Proofs.Ytnldipniaphmgaa
