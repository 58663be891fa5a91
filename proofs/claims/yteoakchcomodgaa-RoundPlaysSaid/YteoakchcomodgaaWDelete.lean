/-
  The contracts of place, checkRick, and of slices.DeleteFunc at ricks, of which just one goes.
-/
import Derived.Test.YteoakchcomodgaaWErr
namespace Go.Proofs.Yteoakchcomodgaa
open Go.RowKit

namespace Pure
def rickAt (n : Nat) (F : Nat → Int) (id : Int) : Int := firstAt (fun j => F (j * 3) == id) n
/-- The numbers without the row k. -/
def delF (F : Nat → Int) (k : Nat) : Nat → Int := fun q => if q < k * 3 then F q else F (q + 3)
end Pure
theorem byId_any (B : Nat) (id i e' d : Int) (t : TypeId) (w : World) (hB : w.heap[B]? = some (.cells #[.int .i64 id] t)) :
    Calls Try.prog 69 #[rickV i e' d, .pointer (some ⟨B, 0, none⟩)] w fun e w' => e = .returned (.bool (i == id)) ∧ Below w.heap.size w w' := by
  have k0 := heap_cell (heap_up hB (rickB i e' d)) (j := 0) rfl
  go_enter Try.func69, Try.ntmps69
  go_wp2_with fail
  go_ret
  exact ⟨rfl, below_new _ _⟩
set_option maxHeartbeats 1000000 in
theorem place_any (h : Int) (a : Option Addr) (n c : Nat) (F : Nat → Int) (id : Int) (hn : n ≤ 40) (w : World) (hF : NumsAt w a (n * 3) F) :
    Calls Try.prog 57 #[watchV h a n c, .int .i64 id] w fun e w' => e = .returned (.int .i64 (Pure.rickAt n F id)) ∧ Below w.heap.size w w' := by
  obtain ⟨W, hW⟩ : ∃ W, (w.alloc (watchB h a n c)).alloc (.cells #[.int .i64 id] 3) = W := ⟨_, rfl⟩
  have HB : Hid (Below w.heap.size w W) := Lib.hid (by rw [← hW]; exact (below_new _ _).alloc (by simp) _)
  have HX : Hid (W.heap[w.heap.size]? = some (watchB h a n c)) := Lib.hid (by rw [← hW]; exact heap_up (heap_top _ _ rfl) _)
  have HI : Hid (W.heap[w.heap.size + 1]? = some (.cells #[.int .i64 id] 3)) := Lib.hid (by rw [← hW]; exact heap_top _ _ (by simp))
  have HP := Lib.hid (hF.below HB.out)
  clear hF
  have x1 := heap_cell HX.out (j := 1) rfl
  go_enter Try.func57, Try.ntmps57
  go_upto_region 1 with fail
  try rw [hW]
  clear hW
  go_wp2_with fail
  refine (indexPlace_any (w.heap.size + 1) a n c F (fun j => F (j * 3) == id) hn _ HP.out (fun u j hj hb => byId_any (w.heap.size + 1) id _ _ _ _ u (heap_lft HI.out hb))).mono ?_
  rintro e u ⟨rfl, hb⟩
  have HB2 := Lib.hid (below_thn HB.out hb)
  clear hb x1
  go_wp2_with fail
  go_ret
  exact ⟨rfl, HB2.out⟩
end Go.Proofs.Yteoakchcomodgaa
