/-
  The contract of bound.
-/
import Derived.Test.YtjegkkpdemoldaaGreatDoorSpan
import Derived.Test.YtjegkkpdemoldaaGreatDoorReach
import Derived.Test.YtjegkkpdemoldaaGreatDoorUpTo
import Derived.Maps.OwnIn
import Derived.Shelf.RegionOpen
import Derived.BigRegionIn
import Derived.Sort.CutIn
namespace Go.Proofs.YtjegkkpdemoldaaGreatDoor
open Go.RowKit Go.Shelf
attribute [local go_sem] Oper.semAt_some

namespace Pure
/-- Whether at most so many are dirty with at least a chance p/q. -/
def okBound (b o f p q x : Int) : Bool := decide (p * sets b o ≤ few b x o f * q)
def bound (b : Nat) (lo hi o f p q : Int) : Option Int := lastOf (okBound b o f p q) (nums b lo hi o f)
end Pure

set_option maxRecDepth 100000 in
set_option maxHeartbeats 4000000 in
theorem bound_in (n b M T C : Nat) (lo hi o f p q : Int) (hb : b ≤ 36) (ho0 : 0 ≤ o) (ho : o ≤ b) (hf0 : 0 ≤ f) (hf : f ≤ o) (hp0 : 0 ≤ p) (hpq : p ≤ q) (hq0 : 1 ≤ q) (hq : q ≤ 1000) (w : World) (hw : Cnt w M T C) :
    CallsIn Fence.wide (n + 5) Tryz.prog 62 #[holdV b lo hi T C, .agg #[.int .i64 o, .int .i64 f], .agg #[.int .i64 p, .int .i64 q]] w fun e W' =>
      e = .returned (.tuple #[.int .i64 ((Pure.bound b lo hi o f p q).getD 0), .bool (Pure.bound b lo hi o f p q).isSome]) ∧ Step M w W' := by
  have HW := Lib.hid hw
  have HL := Lib.hid hw.lt
  clear hw
  refine callsIn_of_wp_marks Tryz.func62 rfl trivial ?_ rfl
  simp only [Tryz.ntmps62, List.size_toArray, List.length_cons, List.length_nil, Nat.reduceAdd, Nat.reduceSub, Array.replicate_succ, Array.replicate_zero, List.push_toArray, List.append_toArray, List.nil_append, List.cons_append]
  gi_wp2_with (refine ⟨trivial, ?_⟩; gi_at_call 48; refine (callsIn_wide.2 (numbers_any b lo hi o f T C _)).mono ?_; rintro e w' ⟨rfl, rfl⟩)
  obtain ⟨W1, hW1⟩ : ∃ W1, ((((((w.alloc (.cells #[.int .i64 b, .int .i64 lo, .int .i64 hi, setsV T C] 82)).alloc (.cells #[.int .i64 o, .int .i64 f] 37)).alloc (.cells #[.int .i64 p, .int .i64 q] 31)).alloc (.cells #[.int .i64 0] 3)).alloc (.cells #[.bool false] 4)).alloc (.cells #[.int .i64 b, .int .i64 lo, .int .i64 hi, setsV T C] 82)).alloc (.cells #[.int .i64 o, .int .i64 f] 37) = W1 := ⟨_, rfl⟩
  have hsz : W1.heap.size = w.heap.size + 7 := by rw [← hW1]; simp
  have hS1 : Step M w W1 := by rw [← hW1]; exact (((((((Step.refl HW.out.memo).alloc _).alloc _).alloc _).alloc _).alloc _).alloc _).alloc _
  have hh0 : W1.heap[w.heap.size]? = some (.cells #[.int .i64 b, .int .i64 lo, .int .i64 hi, setsV T C] 82) := by
    rw [← hW1]; exact heap_up (heap_up (heap_up (heap_up (heap_up (heap_up (heap_top _ _ rfl) _) _) _) _) _) _
  have hd0 : W1.heap[w.heap.size + 1]? = some (.cells #[.int .i64 o, .int .i64 f] 37) := by
    rw [← hW1]; exact heap_up (heap_up (heap_up (heap_up (heap_up (heap_top _ _ (by simp)) _) _) _) _) _
  have hpp : W1.heap[w.heap.size + 1 + 1]? = some (.cells #[.int .i64 p, .int .i64 q] 31) := by
    rw [← hW1]; exact heap_up (heap_up (heap_up (heap_up (heap_top _ _ (by simp)) _) _) _) _
  have hg1 : W1.heap[w.heap.size + 1 + 1 + 1]? = some (.cells #[.int .i64 0] 3) := by
    rw [← hW1]; exact heap_up (heap_up (heap_up (heap_top _ _ (by simp)) _) _) _
  have hs1 : W1.heap[w.heap.size + 1 + 1 + 1 + 1]? = some (.cells #[.bool false] 4) := by
    rw [← hW1]; exact heap_up (heap_up (heap_top _ _ (by simp)) _) _
  have hh1 : W1.heap[w.heap.size + 1 + 1 + 1 + 1 + 1]? = some (.cells #[.int .i64 b, .int .i64 lo, .int .i64 hi, setsV T C] 82) := by
    rw [← hW1]; exact heap_up (heap_top _ _ (by simp)) _
  have hd1 : W1.heap[w.heap.size + 1 + 1 + 1 + 1 + 1 + 1]? = some (.cells #[.int .i64 o, .int .i64 f] 37) := by
    rw [← hW1]; exact heap_top _ _ (by simp)
  rw [hW1]
  have HSZ := Lib.hid hsz
  have HS1 := Lib.hid hS1
  clear hsz hW1 hS1
  refine wpIn_over_numbers (n + 1) (b := b) (M := M) (T := T) (C := C) (lo := lo) (hi := hi) (o := o) (f := f) hb ho0 (by omega) hf0 (by omega) (HW.out.step HS1.out) hh1 hd1 rfl rfl
    (fun pre V => V.heap[w.heap.size + 1 + 1 + 1]? = some (.cells #[.int .i64 ((Pure.lastOf (Pure.okBound b o f p q) pre).getD 0)] 3) ∧ V.heap[w.heap.size + 1 + 1 + 1 + 1]? = some (.cells #[.bool (Pure.lastOf (Pure.okBound b o f p q) pre).isSome] 4) ∧
      V.heap[w.heap.size]? = some (.cells #[.int .i64 b, .int .i64 lo, .int .i64 hi, setsV T C] 82) ∧ V.heap[w.heap.size + 1]? = some (.cells #[.int .i64 o, .int .i64 f] 37) ∧ V.heap[w.heap.size + 1 + 1]? = some (.cells #[.int .i64 p, .int .i64 q] 31) ∧ Step M w V)
    (OwnFrom.and (heap_own' (by have := HSZ.out; omega)) (OwnFrom.and (heap_own' (by have := HSZ.out; omega)) (OwnFrom.and (heap_own (by have := HSZ.out; omega)) (OwnFrom.and (heap_own (by have := HSZ.out; omega)) (OwnFrom.and (heap_own (by have := HSZ.out; omega)) (step_own (by have := HSZ.out; omega) HL.out.1))))))
    (fun s A B _ hs hst => ⟨hst.heap hs.1 (by have := HL.out.1; omega), hst.heap hs.2.1 (by have := HL.out.1; omega), hst.heap hs.2.2.1 (by have := HL.out.1; omega), hst.heap hs.2.2.2.1 (by have := HL.out.1; omega), hst.heap hs.2.2.2.2.1 (by have := HL.out.1; omega), hs.2.2.2.2.2.trans hst⟩) ⟨hg1, hs1, hh0, hd0, hpp, HS1.out⟩
    (fun x a' => a' = { tmps := #[holdV b lo hi T C, .agg #[.int .i64 o, .int .i64 f], .agg #[.int .i64 p, .int .i64 q], .pointer (some ⟨w.heap.size, 0, none⟩), .pointer (some ⟨w.heap.size + 1, 0, none⟩), .pointer (some ⟨w.heap.size + 1 + 1, 0, none⟩), .pointer (some ⟨w.heap.size + 1 + 1 + 1, 0, none⟩), .pointer (some ⟨w.heap.size + 1 + 1 + 1 + 1, 0, none⟩), .int .i64 x,
      holdV b lo hi T C, .agg #[.int .i64 o, .int .i64 f],
      .func (.func 78) #[] #[.pointer (some ⟨w.heap.size + 1 + 1 + 1 + 1 + 1, 0, none⟩), .pointer (some ⟨w.heap.size + 1 + 1 + 1 + 1 + 1 + 1, 0, none⟩)], .int .i64 x, undef, undef, undef, undef, undef, undef, undef, undef, undef], defers := [] })
    ?assign ?body ?done
  case assign =>
    intro l x W K hK
    gi_wp2
    rfl
  case body =>
    rintro l pre x a' V hl hpx rfl hc hbh hbd ⟨hg, hs, hh, hd, hpa, hst⟩
    have HBH := Lib.hid hbh
    have HBD := Lib.hid hbd
    clear hbh hbd
    have hxm := Pure.mem_nums.1 (Pure.prefix_mem hpx)
    have hx0 := hxm.1.1
    have hx1 := hxm.1.2
    have few0 : 0 ≤ Pure.few b x o f := Pure.few_nonneg
    have few1 : Pure.few b x o f ≤ 2542620639232 := Int.le_trans (Pure.few_le (by omega) (by omega)) (by decide)
    have set0 : 0 < Pure.sets b o := Pure.sets_pos ho0 ho
    have set1 : Pure.sets b o ≤ 68719476736 := Pure.sets_le (by omega)
    have ln := Pure.low_num few0 set0
    have ld := Pure.low_den few0 set0
    have m1 : 0 ≤ Pure.few b x o f / Pure.gcd (Pure.few b x o f) (Pure.sets b o) * q := Int.mul_nonneg ln.1 (by omega)
    have m2 : Pure.few b x o f / Pure.gcd (Pure.few b x o f) (Pure.sets b o) * q ≤ 2542620639232 * 1000 := Int.mul_le_mul (by omega) hq (by omega) (by decide)
    have m3 : 0 ≤ p * (Pure.sets b o / Pure.gcd (Pure.few b x o f) (Pure.sets b o)) := Int.mul_nonneg hp0 (by omega)
    have m4 : p * (Pure.sets b o / Pure.gcd (Pure.few b x o f) (Pure.sets b o)) ≤ 1000 * 68719476736 := Int.mul_le_mul (by omega) (by omega) (by omega) (by decide)
    have hr : decide (p * (Pure.sets b o / Pure.gcd (Pure.few b x o f) (Pure.sets b o)) ≤ Pure.few b x o f / Pure.gcd (Pure.few b x o f) (Pure.sets b o) * q) = Pure.okBound b o f p q x := by
      unfold Pure.okBound
      exact decide_eq_decide.2 (Pure.low_ge few0 set0)
    have HCALL : Hid (∀ W, Cnt W M T C → Calls Tryz.prog 61 #[holdV b lo hi T C, .int .i64 x, .agg #[.int .i64 o, .int .i64 f]] W fun e w' => e = .returned (partV (Pure.few b x o f) (Pure.sets b o)) ∧ Step M W w') :=
      Lib.hid (fun W hW => holdAtMost_any b lo hi x o f (by omega) (by omega) (by omega) (by omega) (by omega) ho0 ho W hW)
    have HRE : Hid (∀ W, Calls Tryz.prog 76 #[partV (Pure.few b x o f) (Pure.sets b o), .agg #[.int .i64 p, .int .i64 q]] W fun e w' => e = .returned (.bool (Pure.okBound b o f p q x)) ∧ Below W.heap.size W w') :=
      Lib.hid (fun W => reaches_any _ _ _ _ m1 (by omega) m3 (by omega) _ hr W)
    clear few0 few1 set0 set1 ln ld m1 m2 m3 m4 hr hxm
    have h0 := heap_cell hh (j := 0) rfl
    have h1 := heap_cell hh (j := 1) rfl
    have h2 := heap_cell hh (j := 2) rfl
    have h3 := heap_cell hh (j := 3) rfl
    have d0 := heap_cell hd (j := 0) rfl
    have d1 := heap_cell hd (j := 1) rfl
    have p0 := heap_cell hpa (j := 0) rfl
    have p1 := heap_cell hpa (j := 1) rfl
    have HG := Lib.hid hg
    have HS := Lib.hid hs
    have HH := Lib.hid hh
    have HD := Lib.hid hd
    have HPA := Lib.hid hpa
    have HST := Lib.hid hst
    have HC := Lib.hid hc
    have HPX := Lib.hid hpx
    clear hg hs hh hd hpa hst hc hpx
    gi_wp2_with fail
    have hmix : Tryz.prog.follows .mixedOrders = true := by kernel_rfl
    have hVV : Step M V V.drew := (Step.refl HC.out.memo).drew
    have HVV := Lib.hid hVV
    clear hVV
    gi_cut [18] from 13 (fun s wx => s = .bool (Pure.okBound b o f p q x) ∧ Step M V wx)
    case first =>
      gi_region_with_o (first
        | (refine ⟨trivial, ?_⟩; gi_at_call 61; refine (CallsIn.inRound l (callsIn_wide.2 (HCALL.out _ HC.out.drew))).mono ?_; rintro e V1 ⟨rfl, hs1⟩; have q0 := hs1.cell (heap_cell HPA.out (j := 0) rfl) (by have := HL.out; simp; omega); have q1 := hs1.cell (heap_cell HPA.out (j := 1) rfl) (by have := HL.out; simp; omega))
        | (refine ⟨trivial, ?_⟩; gi_at_call 76; refine (CallsIn.inRound l (callsIn_wide.2 (HRE.out _))).mono ?_; rintro e V2 ⟨rfl, hb2⟩))
      all_goals
        gi_wp2_with fail
        gi_meet
        exact ⟨rfl, (HVV.out.trans hs1).trans (Step.of_below hb2 hs1.memo)⟩
    case rest =>
      obtain ⟨rfl, hsc⟩ := hcut
      have hg := hsc.heap HG.out (by have := HL.out; omega)
      have hs := hsc.heap HS.out (by have := HL.out; omega)
      have hh := hsc.heap HH.out (by have := HL.out; omega)
      have hd := hsc.heap HD.out (by have := HL.out; omega)
      have hpa := hsc.heap HPA.out (by have := HL.out; omega)
      have c0 := heap_cell hg (j := 0) rfl
      have c1 := heap_cell hs (j := 0) rfl
      have f0 := heap_frozen hg 0
      have f1 := heap_frozen hs 0
      have hkf := hsc.keeps (B := W1.heap.size) (by have := HL.out; have := HSZ.out; omega)
      have hkn : KeepNum (W1.heap.size + 2) M T C (w.heap.size + 1 + 1 + 1 + 1 + 1) (w.heap.size + 1 + 1 + 1 + 1 + 1 + 1) V wc := KeepNum.step hsc (by have := HL.out; have := HSZ.out; omega) (by have := HL.out; omega) (by have := HL.out; omega) (Array.getElem?_eq_some_iff.1 HBH.out).1 (Array.getElem?_eq_some_iff.1 HBD.out).1
      have hst := HST.out.trans hsc
      have QG := Lib.hid hg
      have QS := Lib.hid hs
      have QH := Lib.hid hh
      have QD := Lib.hid hd
      have QP := Lib.hid hpa
      have QKF := Lib.hid hkf
      have QKN := Lib.hid hkn
      have QST := Lib.hid hst
      clear hg hs hh hd hpa hkf hkn hst hsc h0 h1 h2 h3 d0 d1 p0 p1
      cases hr : Pure.okBound b o f p q x
      · have e1 := Pure.lastOf_no (l := pre) hr
        have E1 := Lib.hid e1
        clear e1 hr
        gi_wp2
        exact ⟨QKF.out, QKN.out, by rw [E1.out]; exact QG.out, by rw [E1.out]; exact QS.out, QH.out, QD.out, QP.out, QST.out⟩
      · have e1 := Pure.lastOf_yes (l := pre) hr
        have E1 := Lib.hid e1
        clear e1 hr
        gi_wp2
        have z1 := HL.out
        have z2 := HSZ.out
        refine ⟨QKF.out.trans ((keepsFrom_setCell _ _ _).trans (keepsFrom_setCell _ _ _)), QKN.out.trans ((KeepNum.setCell _ (by simp; omega) (by simp) (by simp) (by simp; omega) (by simp; omega) (by simp; omega) _).trans (KeepNum.setCell _ (by simp; omega) (by simp) (by simp) (by simp; omega) (by simp; omega) (by simp; omega) _)), ?_, ?_,
          (Below.heap_setCell _ _ _ _ (by simp <;> omega)).trans ((Below.heap_setCell _ _ _ _ (by simp <;> omega)).trans QH.out), (Below.heap_setCell _ _ _ _ (by simp <;> omega)).trans ((Below.heap_setCell _ _ _ _ (by simp <;> omega)).trans QD.out), (Below.heap_setCell _ _ _ _ (by simp <;> omega)).trans ((Below.heap_setCell _ _ _ _ (by simp <;> omega)).trans QP.out),
          (QST.out.setCell (p := ⟨w.heap.size + 1 + 1 + 1, 0, none⟩) (by simp; omega) z1.1 _).setCell (p := ⟨w.heap.size + 1 + 1 + 1 + 1, 0, none⟩) (by simp; omega) z1.1 _⟩
        · rw [E1.out]
          exact (Below.heap_setCell _ _ _ _ (by simp <;> omega)).trans (heap_set QG.out 0 _)
        · rw [E1.out]
          exact heap_set ((Below.heap_setCell _ _ _ _ (by simp <;> omega)).trans QS.out) 0 _
  case done =>
    rintro D V hD hc ⟨hg, hs, hh, hd, hpa, hst⟩ hK
    have c0 := heap_cell hg (j := 0) rfl
    have c1 := heap_cell hs (j := 0) rfl
    have r0 := heap_frozen hg 0
    have r1 := heap_frozen hs 0
    have HG := Lib.hid hg
    have HS := Lib.hid hs
    have HST := Lib.hid hst
    have HK := Lib.hid hK
    clear hg hs hh hd hpa hst hK hc
    gi_wp2
    gi_region
    gi_wp2
    have hg := HG.out
    have hs := HS.out
    obtain ⟨x1, hx1⟩ : ∃ x, Pure.lastOf (Pure.okBound b o f p q) (Pure.nums b lo hi o f) = x := ⟨_, rfl⟩
    have hx2 : Pure.bound b lo hi o f p q = x1 := hx1
    rw [hx1] at hg hs ⊢
    rw [hx2]
    have hK' := ((KeepsOthers.setCell V ⟨w.heap.size + 1 + 1 + 1, 0, none⟩ (.int .i64 (x1.getD 0))).trans (KeepsOthers.setCell _ ⟨w.heap.size + 1 + 1 + 1 + 1, 0, none⟩ (.bool x1.isSome))).same D _ HK.out rfl
    refine ⟨by simp, .inl ⟨_, _, rfl, run_takeDeferred (w := (((V.setCell ⟨w.heap.size + 1 + 1 + 1, 0, none⟩ (.int .i64 (x1.getD 0))).setCell ⟨w.heap.size + 1 + 1 + 1 + 1, 0, none⟩ (.bool x1.isSome)).drew)) hK', ?_⟩⟩
    have hne1 : w.heap.size + 1 + 1 + 1 ≠ D := by have := HSZ.out; omega
    have hne2 : w.heap.size + 1 + 1 + 1 + 1 ≠ D := by have := HSZ.out; omega
    have q0 := heap_cell (j := 0) ((World.putObj_heap_other (w := (((V.setCell ⟨w.heap.size + 1 + 1 + 1, 0, none⟩ (.int .i64 (x1.getD 0))).setCell ⟨w.heap.size + 1 + 1 + 1 + 1, 0, none⟩ (.bool x1.isSome)).drew)) (o := .deferred none) hne1).trans ((Below.heap_setCell _ _ _ _ (by simp)).trans (heap_set hg 0 (.int .i64 (x1.getD 0))))) rfl
    have q1 := heap_cell (j := 0) ((World.putObj_heap_other (w := (((V.setCell ⟨w.heap.size + 1 + 1 + 1, 0, none⟩ (.int .i64 (x1.getD 0))).setCell ⟨w.heap.size + 1 + 1 + 1 + 1, 0, none⟩ (.bool x1.isSome)).drew)) (o := .deferred none) hne2).trans (heap_set ((Below.heap_setCell _ _ _ _ (by simp)).trans hs) 0 (.bool x1.isSome))) rfl
    refine ⟨.tuple #[.int .i64 (x1.getD 0), .bool x1.isSome], ?_, ⟨rfl, (((HST.out.setCell (p := ⟨w.heap.size + 1 + 1 + 1, 0, none⟩) (by simp; omega) HL.out.1 _).setCell (p := ⟨w.heap.size + 1 + 1 + 1 + 1, 0, none⟩) (by simp; omega) HL.out.1 _).drew).put (by have := HSZ.out; omega) HL.out.1 hK' _ rfl⟩⟩
    simp at q0 q1
    simp [results, Tryz.f62, go_sem, q0, q1]

/-- **bound**. -/
theorem bound_any {b M T C : Nat} {lo hi o f p q : Int} (hb : b ≤ 36) (ho0 : 0 ≤ o) (ho : o ≤ b) (hf0 : 0 ≤ f) (hf : f ≤ o) (hp0 : 0 ≤ p) (hpq : p ≤ q) (hq0 : 1 ≤ q) (hq : q ≤ 1000) (w : World) (hw : Cnt w M T C) :
    Calls Tryz.prog 62 #[holdV b lo hi T C, .agg #[.int .i64 o, .int .i64 f], .agg #[.int .i64 p, .int .i64 q]] w fun e w' =>
      e = .returned (.tuple #[.int .i64 ((Pure.bound b lo hi o f p q).getD 0), .bool (Pure.bound b lo hi o f p q).isSome]) ∧ Step M w w' :=
  callsIn_wide.1 (bound_in 0 b M T C lo hi o f p q hb ho0 ho hf0 hf hp0 hpq hq0 hq w hw)

end Go.Proofs.YtjegkkpdemoldaaGreatDoor
