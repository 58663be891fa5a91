/-
  The contract of checkNumbers: a list of notes to be struck.
-/
import Derived.Test.YtijfdfplebbaaaaGreatUNote
namespace Go.Proofs.YtijfdfplebbaaaaGreat
open Go.RowKit

namespace Pure
def noNote (r : RollX) (d : RollD) (n : Int) : Bool := !((List.range r.nn).any fun j => (d.N j).n == n)
def numsOk (r : RollX) (d : RollD) (len : Nat) (F : Nat → Int) : Bool := inOrder (fun j => decide (F j < F (j + 1))) len && !((List.range len).any fun j => noNote r d (F j))
end Pure

theorem noteNo_any (B : Nat) (id : Int) (x : NoteX) (w : World) (hB : w.heap[B]? = some (.cells #[.int .i64 id] 3)) :
    Calls Tryz.prog 49 #[tnoteV x, .pointer (some ⟨B, 0, none⟩)] w fun e w' => e = .returned (.bool (x.n == id)) ∧ Below w.heap.size w w' := by
  have k0 := heap_cell (heap_up hB (tnoteB x)) (j := 0) rfl
  go_enter Tryz.func49, Tryz.ntmps49
  go_wp2_with fail
  go_ret
  exact ⟨rfl, below_new _ _⟩
set_option maxHeartbeats 2000000 in
set_option maxRecDepth 100000 in
theorem noNote_any (B : Nat) (r : RollX) (d : RollD) (id : Int) (hN : RollN r) (w : World) (hB : w.heap[B]? = some (rollB r)) (hR : RollAt w r d) :
    Calls Tryz.prog 47 #[.int .i64 id, .pointer (some ⟨B, 0, none⟩)] w fun e w' => e = .returned (.bool (Pure.noNote r d id)) ∧ Below w.heap.size w w' := by
  obtain ⟨W, hW⟩ : ∃ W, w.alloc (.cells #[.int .i64 id] 3) = W := ⟨_, rfl⟩
  have HB : Hid (Below w.heap.size w W) := Lib.hid (by rw [← hW]; exact below_new _ _)
  have HX := Lib.hid (heap_lft hB HB.out)
  have HI : Hid (W.heap[w.heap.size]? = some (.cells #[.int .i64 id] 3)) := Lib.hid (by rw [← hW]; exact heap_top _ _ rfl)
  have HR := Lib.hid (hR.below HB.out)
  clear hR hB
  have x4 := heap_cell HX.out (j := 4) rfl
  go_enter Tryz.func47, Tryz.ntmps47
  go_upto_region 1 with fail
  try rw [hW]
  clear hW
  go_wp2_with fail
  refine (containsNoteNo_any w.heap.size r.na r.nn r.nc d.N (fun j => (d.N j).n == id) hN.n _ HR.out.n (fun u j hj hb => noteNo_any w.heap.size id _ u (heap_lft HI.out hb))).mono ?_
  rintro e u ⟨rfl, hb⟩
  have HB2 := Lib.hid (below_thn HB.out hb)
  clear hb x4
  go_wp2_with fail
  go_ret
  exact ⟨ret_bool (by simp [Pure.noNote]), HB2.out⟩
set_option maxHeartbeats 2000000 in
set_option maxRecDepth 100000 in
theorem checkNumbers_any (r : RollX) (d : RollD) (a : Option Addr) (len cap : Nat) (F : Nat → Int) (hN : RollN r) (hl : len ≤ 60) (w : World) (hR : RollAt w r d) (hF : NumsAt w a len F) :
    Calls Tryz.prog 24 #[rollV r, .slice a len cap] w fun e w' => e = .returned (.int .i64 (Pure.err (Pure.numsOk r d len F) 91)) ∧ Below w.heap.size w w' := by
  obtain ⟨W, hW⟩ : ∃ W, w.alloc (rollB r) = W := ⟨_, rfl⟩
  have HB : Hid (Below w.heap.size w W) := Lib.hid (by rw [← hW]; exact below_new _ _)
  have HX : Hid (W.heap[w.heap.size]? = some (rollB r)) := Lib.hid (by rw [← hW]; exact heap_top _ _ rfl)
  have HR := Lib.hid (hR.below HB.out)
  have HF := Lib.hid (hF.below HB.out)
  clear hR hF
  unfold Pure.numsOk
  obtain ⟨q1, hq1⟩ : ∃ q, Pure.inOrder (fun j => decide (F j < F (j + 1))) len = q := ⟨_, rfl⟩
  obtain ⟨q2, hq2⟩ : ∃ q, (List.range len).any (fun j => Pure.noNote r d (F j)) = q := ⟨_, rfl⟩
  rw [hq1, hq2]
  have HQ1 := Lib.hid hq1
  have HQ2 := Lib.hid hq2
  clear hq1 hq2
  go_enter Tryz.func24, Tryz.ntmps24
  go_upto_region 1 with fail
  try rw [hW]
  clear hW
  go_wp2_with fail
  refine (inOrderNos_any a len cap F (fun j => decide (F j < F (j + 1))) (by omega) _ HF.out (fun u j hj hb => lessNos_any _ _ u)).mono ?_
  rintro e u ⟨rfl, hb⟩
  rw [HQ1.out]
  have HB2 := Lib.hid (below_thn HB.out hb)
  have HX2 := Lib.hid (heap_lft HX.out hb)
  have HR2 := Lib.hid (HR.out.below hb)
  have HF2 := Lib.hid (HF.out.below hb)
  clear hb
  cases q1
  · go_wp2_with fail
    refine (tunless_any false 91 _).mono ?_
    rintro e w3 ⟨rfl, rfl⟩
    go_wp2_with fail
    go_ret
    exact ⟨rfl, HB2.out⟩
  · go_wp2_with fail
    refine (containsNoNote_any w.heap.size a len cap F (fun j => Pure.noNote r d (F j)) hl _ HF2.out (fun u j hj hb => noNote_any w.heap.size r d (F j) hN u (heap_lft HX2.out hb) (HR2.out.below hb))).mono ?_
    rintro e u3 ⟨rfl, hb⟩
    rw [HQ2.out]
    have HB3 := Lib.hid (below_thn HB2.out hb)
    clear hb
    go_wp2_with fail
    refine (tunless_any (!q2) 91 _).mono ?_
    rintro e w3 ⟨rfl, rfl⟩
    go_wp2_with fail
    go_ret
    exact ⟨rfl, HB3.out⟩

end Go.Proofs.YtijfdfplebbaaaaGreat
