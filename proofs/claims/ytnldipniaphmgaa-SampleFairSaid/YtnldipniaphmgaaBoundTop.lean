/-
  The contracts of Bound and Find.
-/
import Derived.Test.YtnldipniaphmgaaKnow
namespace Go.Proofs.Ytnldipniaphmgaa
open Go.RowKit Go.Shelf

namespace Pure
/-- The code of what is asked behind a draw, with a chance. -/
def askE (b lo hi o f p q : Int) : Int := afterE b lo hi o f (okParts 1 (fun _ => p) (fun _ => q))
def boundV (b lo hi o f p q : Int) : Int := if askE b lo hi o f p q = 0 then (bound b.toNat lo hi o f p q).getD 0 else 0
def boundE (b lo hi o f p q : Int) : Int := if askE b lo hi o f p q = 0 then err (bound b.toNat lo hi o f p q).isSome 6 else askE b lo hi o f p q
theorem boundV_zero {b lo hi o f p q : Int} (h : askE b lo hi o f p q = 0) : boundV b lo hi o f p q = (bound b.toNat lo hi o f p q).getD 0 := if_pos h
theorem boundV_err {b lo hi o f p q : Int} (h : askE b lo hi o f p q ≠ 0) : boundV b lo hi o f p q = 0 := if_neg h
theorem boundE_zero {b lo hi o f p q : Int} (h : askE b lo hi o f p q = 0) : boundE b lo hi o f p q = err (bound b.toNat lo hi o f p q).isSome 6 := if_pos h
theorem boundE_err {b lo hi o f p q : Int} (h : askE b lo hi o f p q ≠ 0) : boundE b lo hi o f p q = askE b lo hi o f p q := if_neg h
theorem okParts_one {p q : Int} (h : okParts 1 (fun _ => p) (fun _ => q) = true) : 0 ≤ p ∧ p ≤ q ∧ 1 ≤ q ∧ q ≤ 1000 := by
  unfold okParts at h
  have h1 : okPart p q := of_decide_eq_true h 0 (by decide)
  unfold okPart at h1
  omega
end Pure

set_option maxHeartbeats 1000000 in
set_option maxRecDepth 100000 in
/-- **Bound**. -/
theorem bound_top (b lo hi o f p q : Int) (w : World) :
    Calls Try.prog 44 #[cargoV b lo hi, .agg #[.int .i64 o, .int .i64 f], .agg #[.int .i64 p, .int .i64 q]] w fun e w' => e = .returned (.tuple #[.int .i64 (Pure.boundV b lo hi o f p q), .int .i64 (Pure.boundE b lo hi o f p q)]) ∧ Below w.heap.size w w' := by
  go_enter Try.func44, Try.ntmps44
  go_wp2_with fail
  obtain ⟨W1, hW1⟩ : ∃ W1, (((w.alloc (.cells #[.int .i64 b, .int .i64 lo, .int .i64 hi] 25)).alloc (.cells #[.int .i64 o, .int .i64 f] 64)).alloc (.cells #[.int .i64 p, .int .i64 q] 31)).alloc (.cells #[.int .i64 p, .int .i64 q] 31) = W1 := ⟨_, rfl⟩
  have hB1 : Below w.heap.size w W1 := by rw [← hW1]; exact ((((Below.refl _ _).alloc (Nat.le_refl _) _).alloc (by simp) _).alloc (by simp; omega) _).alloc (by simp; omega) _
  have hsz : W1.heap.size = w.heap.size + 4 := by rw [← hW1]; simp
  have hd1 : W1.heap[w.heap.size + 1]? = some (.cells #[.int .i64 o, .int .i64 f] 64) := by rw [← hW1]; exact heap_up (heap_up (heap_top _ _ (by simp)) _) _
  have hp1 : W1.heap[w.heap.size + 1 + 1]? = some (.cells #[.int .i64 p, .int .i64 q] 31) := by rw [← hW1]; exact heap_up (heap_top _ _ (by simp)) _
  have hp2 : W1.heap[w.heap.size + 1 + 1 + 1]? = some (.cells #[.int .i64 p, .int .i64 q] 31) := by rw [← hW1]; exact heap_top _ _ (by simp)
  have hta : TermsAt W1 (some ⟨w.heap.size + 1 + 1 + 1, 0, none⟩) 1 (fun _ => p) (fun _ => q) := fun j hj => by
    obtain rfl : j = 0 := by omega
    exact ⟨_, _, rfl, heap_cell hp2 (j := 0) rfl, heap_cell hp2 (j := 1) rfl⟩
  rw [hW1]
  have HB1 := Lib.hid hB1
  have HSZ := Lib.hid hsz
  have HD1 := Lib.hid hd1
  have HP1 := Lib.hid hp1
  have HTA := Lib.hid hta
  clear hW1 hB1 hsz hd1 hp1 hp2 hta
  refine (after_any b lo hi o f _ 1 _ (fun _ => p) (fun _ => q) (by decide) _ HTA.out).mono ?_
  have HCE : Hid (Pure.afterE b lo hi o f (Pure.okParts 1 (fun _ => p) (fun _ => q)) = Pure.askE b lo hi o f p q) := Lib.hid rfl
  rw [HCE.out]
  obtain ⟨code, hcode⟩ : ∃ c, Pure.askE b lo hi o f p q = c := ⟨_, rfl⟩
  rw [hcode]
  have HCODE := Lib.hid hcode
  clear hcode
  rintro e w2 (⟨hne, rfl, hb⟩ | ⟨rfl, M, T, C, rfl, hMw, hc, hb⟩)
  · have HNE := Lib.hid hne
    have hnb : (code != 0) = true := by simpa using hne
    have HB := Lib.hid (HB1.out.trans (hb.mono HB1.out.size))
    clear hne hb
    go_wp2_with fail
    go_ret2
    refine ⟨?_, HB.out.alloc HB.out.size _⟩
    rw [Pure.boundE_err (by rw [HCODE.out]; exact HNE.out), Pure.boundV_err (by rw [HCODE.out]; exact HNE.out), HCODE.out]
    rfl
  · obtain ⟨q1, q2, q3, q4⟩ := Pure.afterE_zero (HCE.out.trans HCODE.out)
    have q3 := Pure.okParts_one q3
    obtain ⟨bn, rfl⟩ : ∃ n : Nat, b = n := ⟨b.toNat, by omega⟩
    have hd2 := (hb.block _ (by have := HSZ.out; omega)).trans HD1.out
    have hd3 := heap_up hd2 (.cells #[.int .i64 bn, .int .i64 lo, .int .i64 hi, setsV T C] 104)
    have hp2 := (hb.block _ (by have := HSZ.out; omega)).trans HP1.out
    have hp3 := heap_up hp2 (.cells #[.int .i64 bn, .int .i64 lo, .int .i64 hi, setsV T C] 104)
    have d0 := heap_cell hd3 (j := 0) rfl
    have d1 := heap_cell hd3 (j := 1) rfl
    have p0 := heap_cell hp3 (j := 0) rfl
    have p1 := heap_cell hp3 (j := 1) rfl
    have HB := Lib.hid (HB1.out.trans (hb.mono HB1.out.size))
    have HC := Lib.hid hc
    have HMW := Lib.hid hMw
    clear hb hd2 hd3 hp2 hp3 hc hMw
    go_wp2_with fail
    refine (bound_any (b := bn) (by omega) q2.1 q2.2.1 q2.2.2.1 q2.2.2.2 q3.1 q3.2.1 q3.2.2.1 q3.2.2.2 _ (HC.out.alloc _)).mono ?_
    rintro e w3 ⟨rfl, hs3⟩
    have hB3 := below_step (HB.out.alloc HB.out.size (.cells #[.int .i64 bn, .int .i64 lo, .int .i64 hi, setsV T C] 104)) hs3 (by have := HB.out.size; simp; omega) (by have := HMW.out; have := HSZ.out; omega)
    have HB3 := Lib.hid hB3
    obtain ⟨x, hx⟩ : ∃ x, Pure.bound bn lo hi o f p q = x := ⟨_, rfl⟩
    have HV : Hid (Pure.boundV bn lo hi o f p q = x.getD 0 ∧ Pure.boundE bn lo hi o f p q = Pure.err x.isSome 6) := Lib.hid (by rw [Pure.boundV_zero HCODE.out, Pure.boundE_zero HCODE.out, Int.toNat_natCast, hx]; exact ⟨rfl, rfl⟩)
    rw [hx]
    clear hs3 hB3 hx
    go_wp2_with fail
    refine (unless_any _ _ _).mono ?_
    rintro e w4 ⟨rfl, rfl⟩
    go_wp2_with fail
    go_ret2
    refine ⟨?_, HB3.out⟩
    rw [HV.out.1, HV.out.2]
    rfl

end Go.Proofs.Ytnldipniaphmgaa
