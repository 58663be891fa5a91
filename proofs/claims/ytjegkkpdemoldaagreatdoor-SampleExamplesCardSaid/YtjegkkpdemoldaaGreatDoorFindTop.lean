/-
  The contracts of Bound and Find.
  The contract of Find.
-/
import Derived.Test.YtjegkkpdemoldaaGreatDoorKnow

namespace Go.Proofs.YtjegkkpdemoldaaGreatDoor
open Go.RowKit Go.Shelf

namespace Pure
/-- The code of what is asked behind a draw, with a chance. -/
def askE (b lo hi o f p q : Int) : Int := afterE b lo hi o f (okParts 1 (fun _ => p) (fun _ => q))
def boundV (b lo hi o f p q : Int) : Int := if askE b lo hi o f p q = 0 then (bound b.toNat lo hi o f p q).getD 0 else 0
def boundE (b lo hi o f p q : Int) : Int := if askE b lo hi o f p q = 0 then err (bound b.toNat lo hi o f p q).isSome 6 else askE b lo hi o f p q
theorem boundV_zero {b lo hi o f p q : Int} (h : askE b lo hi o f p q = 0) : boundV b lo hi o f p q = (bound b.toNat lo hi o f p q).getD 0 := if_pos h
theorem boundV_err {b lo hi o f p q : Int} (h : askE b lo hi o f p q ≠ 0) : boundV b lo hi o f p q = 0 := if_neg h
theorem boundE_zero {b lo hi o f p q : Int} (h : askE b lo hi o f p q = 0) : boundE b lo hi o f p q = err (bound b.toNat lo hi o f p q).isSome 6 := if_pos h
theorem boundE_err {b lo hi o f p q : Int} (h : askE b lo hi o f p q ≠ 0) : boundE b lo hi o f p q = askE b lo hi o f p q := if_neg h
theorem okParts_one {p q : Int} (h : okParts 1 (fun _ => p) (fun _ => q) = true) : 0 ≤ p ∧ p ≤ q ∧ 1 ≤ q ∧ q ≤ 1000 := by
  unfold okParts at h
  have h1 : okPart p q := of_decide_eq_true h 0 (by decide)
  unfold okPart at h1
  omega
end Pure

set_option maxHeartbeats 1000000 in
set_option maxRecDepth 100000 in
/-- **Bound**. -/
theorem bound_top (b lo hi o f p q : Int) (w : World) :
    Calls Tryz.prog 26 #[cargoV b lo hi, .agg #[.int .i64 o, .int .i64 f], .agg #[.int .i64 p, .int .i64 q]] w fun e w' => e = .returned (.tuple #[.int .i64 (Pure.boundV b lo hi o f p q), .int .i64 (Pure.boundE b lo hi o f p q)]) ∧ Below w.heap.size w w' := by
  go_enter Tryz.func26, Tryz.ntmps26
  go_wp2_with fail
  obtain ⟨W1, hW1⟩ : ∃ W1, (((w.alloc (.cells #[.int .i64 b, .int .i64 lo, .int .i64 hi] 28)).alloc (.cells #[.int .i64 o, .int .i64 f] 37)).alloc (.cells #[.int .i64 p, .int .i64 q] 31)).alloc (.cells #[.int .i64 p, .int .i64 q] 31) = W1 := ⟨_, rfl⟩
  have hB1 : Below w.heap.size w W1 := by rw [← hW1]; exact ((((Below.refl _ _).alloc (Nat.le_refl _) _).alloc (by simp) _).alloc (by simp; omega) _).alloc (by simp; omega) _
  have hsz : W1.heap.size = w.heap.size + 4 := by rw [← hW1]; simp
  have hd1 : W1.heap[w.heap.size + 1]? = some (.cells #[.int .i64 o, .int .i64 f] 37) := by rw [← hW1]; exact heap_up (heap_up (heap_top _ _ (by simp)) _) _
  have hp1 : W1.heap[w.heap.size + 1 + 1]? = some (.cells #[.int .i64 p, .int .i64 q] 31) := by rw [← hW1]; exact heap_up (heap_top _ _ (by simp)) _
  have hp2 : W1.heap[w.heap.size + 1 + 1 + 1]? = some (.cells #[.int .i64 p, .int .i64 q] 31) := by rw [← hW1]; exact heap_top _ _ (by simp)
  have hta : TermsAt W1 (some ⟨w.heap.size + 1 + 1 + 1, 0, none⟩) 1 (fun _ => p) (fun _ => q) := fun j hj => by
    obtain rfl : j = 0 := by omega
    exact ⟨_, _, rfl, heap_cell hp2 (j := 0) rfl, heap_cell hp2 (j := 1) rfl⟩
  rw [hW1]
  have HB1 := Lib.hid hB1
  have HSZ := Lib.hid hsz
  have HD1 := Lib.hid hd1
  have HP1 := Lib.hid hp1
  have HTA := Lib.hid hta
  clear hW1 hB1 hsz hd1 hp1 hp2 hta
  refine (after_any b lo hi o f _ 1 _ (fun _ => p) (fun _ => q) (by decide) _ HTA.out).mono ?_
  have HCE : Hid (Pure.afterE b lo hi o f (Pure.okParts 1 (fun _ => p) (fun _ => q)) = Pure.askE b lo hi o f p q) := Lib.hid rfl
  rw [HCE.out]
  obtain ⟨code, hcode⟩ : ∃ c, Pure.askE b lo hi o f p q = c := ⟨_, rfl⟩
  rw [hcode]
  have HCODE := Lib.hid hcode
  clear hcode
  rintro e w2 (⟨hne, rfl, hb⟩ | ⟨rfl, M, T, C, rfl, hMw, hc, hb⟩)
  · have HNE := Lib.hid hne
    have hnb : (code != 0) = true := by simpa using hne
    have HB := Lib.hid (HB1.out.trans (hb.mono HB1.out.size))
    clear hne hb
    go_wp2_with fail
    go_ret2
    refine ⟨?_, HB.out.alloc HB.out.size _⟩
    rw [Pure.boundE_err (by rw [HCODE.out]; exact HNE.out), Pure.boundV_err (by rw [HCODE.out]; exact HNE.out), HCODE.out]
    rfl
  · obtain ⟨q1, q2, q3, q4⟩ := Pure.afterE_zero (HCE.out.trans HCODE.out)
    have q3 := Pure.okParts_one q3
    obtain ⟨bn, rfl⟩ : ∃ n : Nat, b = n := ⟨b.toNat, by omega⟩
    have hd2 := (hb.block _ (by have := HSZ.out; omega)).trans HD1.out
    have hd3 := heap_up hd2 (.cells #[.int .i64 bn, .int .i64 lo, .int .i64 hi, setsV T C] 82)
    have hp2 := (hb.block _ (by have := HSZ.out; omega)).trans HP1.out
    have hp3 := heap_up hp2 (.cells #[.int .i64 bn, .int .i64 lo, .int .i64 hi, setsV T C] 82)
    have d0 := heap_cell hd3 (j := 0) rfl
    have d1 := heap_cell hd3 (j := 1) rfl
    have p0 := heap_cell hp3 (j := 0) rfl
    have p1 := heap_cell hp3 (j := 1) rfl
    have HB := Lib.hid (HB1.out.trans (hb.mono HB1.out.size))
    have HC := Lib.hid hc
    have HMW := Lib.hid hMw
    clear hb hd2 hd3 hp2 hp3 hc hMw
    go_wp2_with fail
    refine (bound_any (b := bn) (by omega) q2.1 q2.2.1 q2.2.2.1 q2.2.2.2 q3.1 q3.2.1 q3.2.2.1 q3.2.2.2 _ (HC.out.alloc _)).mono ?_
    rintro e w3 ⟨rfl, hs3⟩
    have hB3 := below_step (HB.out.alloc HB.out.size (.cells #[.int .i64 bn, .int .i64 lo, .int .i64 hi, setsV T C] 82)) hs3 (by have := HB.out.size; simp; omega) (by have := HMW.out; have := HSZ.out; omega)
    have HB3 := Lib.hid hB3
    obtain ⟨x, hx⟩ : ∃ x, Pure.bound bn lo hi o f p q = x := ⟨_, rfl⟩
    have HV : Hid (Pure.boundV bn lo hi o f p q = x.getD 0 ∧ Pure.boundE bn lo hi o f p q = Pure.err x.isSome 6) := Lib.hid (by rw [Pure.boundV_zero HCODE.out, Pure.boundE_zero HCODE.out, Int.toNat_natCast, hx]; exact ⟨rfl, rfl⟩)
    rw [hx]
    clear hs3 hB3 hx
    go_wp2_with fail
    refine (unless_any _ _ _).mono ?_
    rintro e w4 ⟨rfl, rfl⟩
    go_wp2_with fail
    go_ret2
    refine ⟨?_, HB3.out⟩
    rw [HV.out.1, HV.out.2]
    rfl

end Go.Proofs.YtjegkkpdemoldaaGreatDoor

namespace Go.Proofs.YtjegkkpdemoldaaGreatDoor
open Go.RowKit Go.Shelf

namespace Pure
def findE (b lo hi d p q : Int) : Int :=
  let code := first3 (err (okCargo b lo hi) 10) (err (okIn lo hi d) 2) (err (okParts 1 (fun _ => p) (fun _ => q)) 12)
  if code = 0 then err (find b.toNat d p q).isSome 6 else code
def findV (b lo hi d p q : Int) : Int :=
  if first3 (err (okCargo b lo hi) 10) (err (okIn lo hi d) 2) (err (okParts 1 (fun _ => p) (fun _ => q)) 12) = 0 then (find b.toNat d p q).getD 0 else 0
end Pure

theorem terms_one {w : World} {s : Nat} {p q : Int} (h0 : w.cell? ⟨s, 0, none⟩ = some (.int .i64 p)) (h1 : w.cell? ⟨s, 1, none⟩ = some (.int .i64 q)) : TermsAt w (some ⟨s, 0, none⟩) 1 (fun _ => p) (fun _ => q) := fun j hj => by
  obtain rfl : j = 0 := by omega
  exact ⟨_, _, rfl, h0, h1⟩
theorem cells_top_drew (w : World) (arr : Array Value) (t : TypeId) {b : Nat} (hb : b = w.heap.size) (j : Nat) : ((w.alloc (.cells arr t)).drew).cell? ⟨b, j, none⟩ = arr[j]? := cells_top w arr t hb j

set_option maxHeartbeats 4000000 in
set_option maxRecDepth 100000 in
/-- **Find**. -/
theorem find_top (b lo hi d p q : Int) (w : World) :
    Calls Tryz.prog 11 #[cargoV b lo hi, .int .i64 d, .agg #[.int .i64 p, .int .i64 q]] w fun e w' => e = .returned (.tuple #[.int .i64 (Pure.findV b lo hi d p q), .int .i64 (Pure.findE b lo hi d p q)]) ∧ Below w.heap.size w w' := by
  go_enter Tryz.func11, Tryz.ntmps11
  go_upto_region 1 with fail
  obtain ⟨W1, hW1⟩ : ∃ W1, (w.alloc (.cells #[.int .i64 b, .int .i64 lo, .int .i64 hi] 28)).alloc (.cells #[.int .i64 p, .int .i64 q] 31) = W1 := ⟨_, rfl⟩
  have HB1 : Hid (Below w.heap.size w W1) := by rw [← hW1]; exact Lib.hid (((Below.refl _ _).alloc (Nat.le_refl _) _).alloc (by simp) _)
  have HSZ : Hid (W1.heap.size = w.heap.size + 2) := by rw [← hW1]; exact Lib.hid (by simp)
  have e : ∀ j v, (#[Value.int .i64 b, .int .i64 lo, .int .i64 hi])[j]? = some v → W1.cell? ⟨w.heap.size, j, none⟩ = some v := by rw [← hW1]; intro j v h; exact cell_up ((cells_top _ _ _ rfl j).trans h) _
  have g : ∀ j v, (#[Value.int .i64 p, .int .i64 q])[j]? = some v → W1.cell? ⟨w.heap.size + 1, j, none⟩ = some v := by rw [← hW1]; intro j v h; exact (cells_top _ _ _ (by simp) j).trans h
  rw [hW1]
  clear hW1
  have HK0 : Hid (W1.drew.cell? ⟨w.heap.size, 0, none⟩ = some (.int .i64 b) ∧ W1.drew.cell? ⟨w.heap.size, 1, none⟩ = some (.int .i64 lo) ∧ W1.drew.cell? ⟨w.heap.size, 2, none⟩ = some (.int .i64 hi) ∧ W1.drew.cell? ⟨w.heap.size + 1, 0, none⟩ = some (.int .i64 p) ∧ W1.drew.cell? ⟨w.heap.size + 1, 1, none⟩ = some (.int .i64 q) ∧ Below W1.heap.size W1 W1.drew) :=
    Lib.hid ⟨e 0 _ rfl, e 1 _ rfl, e 2 _ rfl, g 0 _ rfl, g 1 _ rfl, (Below.refl _ _).drew⟩
  have HKS : Hid (∀ u v : World, (u.cell? ⟨w.heap.size, 0, none⟩ = some (.int .i64 b) ∧ u.cell? ⟨w.heap.size, 1, none⟩ = some (.int .i64 lo) ∧ u.cell? ⟨w.heap.size, 2, none⟩ = some (.int .i64 hi) ∧ u.cell? ⟨w.heap.size + 1, 0, none⟩ = some (.int .i64 p) ∧ u.cell? ⟨w.heap.size + 1, 1, none⟩ = some (.int .i64 q) ∧ Below W1.heap.size W1 u) → Below u.heap.size u v → (v.cell? ⟨w.heap.size, 0, none⟩ = some (.int .i64 b) ∧ v.cell? ⟨w.heap.size, 1, none⟩ = some (.int .i64 lo) ∧ v.cell? ⟨w.heap.size, 2, none⟩ = some (.int .i64 hi) ∧ v.cell? ⟨w.heap.size + 1, 0, none⟩ = some (.int .i64 p) ∧ v.cell? ⟨w.heap.size + 1, 1, none⟩ = some (.int .i64 q) ∧ Below W1.heap.size W1 v)) :=
    Lib.hid (fun u v h k => ⟨below_cell k h.1, below_cell k h.2.1, below_cell k h.2.2.1, below_cell k h.2.2.2.1, below_cell k h.2.2.2.2.1, h.2.2.2.2.2.trans (k.mono h.2.2.2.2.2.size)⟩)
  have HE := Lib.hid e
  have HG := Lib.hid g
  clear e g
  go_cut [8] (fun s wx => s = .int .i64 (Pure.first3 (Pure.err (Pure.okCargo b lo hi) 10) (Pure.err (Pure.okIn lo hi d) 2) (Pure.err (Pure.okParts 1 (fun _ => p) (fun _ => q)) 12)) ∧ Below W1.heap.size W1 wx)
  case first =>
    go_region_held3 (fun w' => w'.cell? ⟨w.heap.size, 0, none⟩ = some (.int .i64 b) ∧ w'.cell? ⟨w.heap.size, 1, none⟩ = some (.int .i64 lo) ∧ w'.cell? ⟨w.heap.size, 2, none⟩ = some (.int .i64 hi) ∧ w'.cell? ⟨w.heap.size + 1, 0, none⟩ = some (.int .i64 p) ∧ w'.cell? ⟨w.heap.size + 1, 1, none⟩ = some (.int .i64 q) ∧ Below W1.heap.size W1 w')
      (first | exact HK0.out | exact HKS.out _ _ (by assumption) (by assumption) | exact HKS.out _ _ (by assumption) ((Below.refl _ _).alloc (Nat.le_refl _) _))
      (first
        | (go_at_call 29; refine (check_any _ _ _ _).mono ?_; rintro e w' ⟨rfl, hb⟩)
        | (go_at_call 33; refine (checkDirty1 _ _ _ d _ _ _ ?_).mono ?_; (focus (repeat (first | exact cell_top _ _ _ (by simp) | exact cell_top_drew _ _ _ (by simp) | refine cell_up ?_ _ | refine below_cell (by assumption) ?_))); rintro e w' ⟨rfl, hb⟩)
        | (go_at_call 43; refine (checkChances_any _ 1 _ (fun _ => p) (fun _ => q) (by decide) _ (terms_one ?_ ?_)).mono ?_; (focus (repeat (first | exact cells_top _ _ _ (by simp) 0 | exact cells_top_drew _ _ _ (by simp) 0 | refine cell_up ?_ _ | refine below_cell (by assumption) ?_))); (focus (repeat (first | exact cells_top _ _ _ (by simp) 1 | exact cells_top_drew _ _ _ (by simp) 1 | refine cell_up ?_ _ | refine below_cell (by assumption) ?_))); rintro e w' ⟨rfl, hb⟩)
        | (go_at_call 32; refine (firstError3 (Pure.err (Pure.okCargo b lo hi) 10) (Pure.err (Pure.okIn lo hi d) 2) (Pure.err (Pure.okParts 1 (fun _ => p) (fun _ => q)) 12) _ _ _ (cells_top _ _ _ rfl 0) (cells_top _ _ _ rfl 1) (cells_top _ _ _ rfl 2)).mono ?_; rintro e w' ⟨rfl, hb⟩))
    all_goals (go_wp2_with fail; go_meet; refine ⟨rfl, ?_⟩; exact And.right (And.right (And.right (And.right (And.right (by assumption))))))
  case rest =>
    obtain ⟨rfl, hBc⟩ := hcut
    have HV : Hid (Pure.findV b lo hi d p q = if Pure.first3 (Pure.err (Pure.okCargo b lo hi) 10) (Pure.err (Pure.okIn lo hi d) 2) (Pure.err (Pure.okParts 1 (fun _ => p) (fun _ => q)) 12) = 0 then (Pure.find b.toNat d p q).getD 0 else 0) := Lib.hid rfl
    have HVE : Hid (Pure.findE b lo hi d p q = if Pure.first3 (Pure.err (Pure.okCargo b lo hi) 10) (Pure.err (Pure.okIn lo hi d) 2) (Pure.err (Pure.okParts 1 (fun _ => p) (fun _ => q)) 12) = 0 then Pure.err (Pure.find b.toNat d p q).isSome 6 else Pure.first3 (Pure.err (Pure.okCargo b lo hi) 10) (Pure.err (Pure.okIn lo hi d) 2) (Pure.err (Pure.okParts 1 (fun _ => p) (fun _ => q)) 12)) := Lib.hid rfl
    obtain ⟨code, hcode⟩ : ∃ c, Pure.first3 (Pure.err (Pure.okCargo b lo hi) 10) (Pure.err (Pure.okIn lo hi d) 2) (Pure.err (Pure.okParts 1 (fun _ => p) (fun _ => q)) 12) = c := ⟨_, rfl⟩
    rw [hcode] at HV HVE ⊢
    have HBC := Lib.hid hBc
    have HCODE := Lib.hid hcode
    clear hBc hcode HK0 HKS
    by_cases h0 : code = 0
    · subst h0
      obtain ⟨q1, q2, q3⟩ := Pure.first3_zero HCODE.out
      have q1 := Pure.err_zero q1 (by decide)
      have q2 := Pure.err_zero q2 (by decide)
      have q3 := Pure.okParts_one (Pure.err_zero q3 (by decide))
      unfold Pure.okCargo at q1
      unfold Pure.okIn at q2
      simp only [decide_eq_true_eq] at q1 q2
      obtain ⟨b1, b2, b3, b4, b5⟩ := q1
      obtain ⟨d1, d2⟩ := q2
      obtain ⟨bn, rfl⟩ : ∃ n : Nat, b = n := ⟨b.toNat, by omega⟩
      rw [if_pos rfl, Int.toNat_natCast] at HV HVE
      obtain ⟨x, hx⟩ : ∃ x, Pure.find bn d p q = x := ⟨_, rfl⟩
      rw [hx] at HV HVE
      have HX := Lib.hid hx
      clear hx
      have c0 := below_cell HBC.out (HE.out 0 _ rfl)
      have c1 := below_cell HBC.out (HE.out 1 _ rfl)
      have c2 := below_cell HBC.out (HE.out 2 _ rfl)
      have g0 := below_cell HBC.out (HG.out 0 _ rfl)
      have g1 := below_cell HBC.out (HG.out 1 _ rfl)
      have HT0 : Hid (wc.drew.cell? ⟨w.heap.size, 0, none⟩ = some (.int .i64 bn) ∧ wc.drew.cell? ⟨w.heap.size, 1, none⟩ = some (.int .i64 lo) ∧ wc.drew.cell? ⟨w.heap.size, 2, none⟩ = some (.int .i64 hi) ∧ wc.drew.cell? ⟨w.heap.size + 1, 0, none⟩ = some (.int .i64 p) ∧ wc.drew.cell? ⟨w.heap.size + 1, 1, none⟩ = some (.int .i64 q)) := Lib.hid ⟨c0, c1, c2, g0, g1⟩
      have HTS : Hid (∀ v : World, Below wc.heap.size wc v → (v.cell? ⟨w.heap.size, 0, none⟩ = some (.int .i64 bn) ∧ v.cell? ⟨w.heap.size, 1, none⟩ = some (.int .i64 lo) ∧ v.cell? ⟨w.heap.size, 2, none⟩ = some (.int .i64 hi) ∧ v.cell? ⟨w.heap.size + 1, 0, none⟩ = some (.int .i64 p) ∧ v.cell? ⟨w.heap.size + 1, 1, none⟩ = some (.int .i64 q))) :=
        Lib.hid (fun v k => ⟨below_cell k c0, below_cell k c1, below_cell k c2, below_cell k g0, below_cell k g1⟩)
      clear c0 c1 c2 g0 g1
      go_wp2_with fail
      go_cut [9, 10] from 25 (fun s t wx => s = .int .i64 (x.getD 0) ∧ t = .bool x.isSome ∧ Below wc.heap.size wc wx)
      case first =>
        go_region_held3 (fun v => v.cell? ⟨w.heap.size, 0, none⟩ = some (.int .i64 bn) ∧ v.cell? ⟨w.heap.size, 1, none⟩ = some (.int .i64 lo) ∧ v.cell? ⟨w.heap.size, 2, none⟩ = some (.int .i64 hi) ∧ v.cell? ⟨w.heap.size + 1, 0, none⟩ = some (.int .i64 p) ∧ v.cell? ⟨w.heap.size + 1, 1, none⟩ = some (.int .i64 q))
          (first | exact HT0.out | exact HTS.out _ (by assumption))
          (first
            | (go_at_call 35; refine (work_any bn lo hi _).mono ?_; rintro e w2 ⟨M, T, C, rfl, hMw, hw2, hbw⟩; have hbx : Below wc.heap.size wc w2 := (Below.refl wc.heap.size wc).drew.trans hbw)
            | (go_at_call 44; refine (find_any (b := bn) lo hi d p q (by omega) (by omega) (by omega) q3.1 q3.2.1 q3.2.2.1 q3.2.2.2 _ hw2).mono ?_; rintro e w3 ⟨rfl, hs3⟩; rw [HX.out]; have hby : Below wc.heap.size wc w3 := below_step hbx hs3 hbx.size hMw))
        all_goals (go_wp2_with fail; go_meet; exact ⟨rfl, rfl, by assumption⟩)
      case rest =>
        obtain ⟨rfl, rfl, hbx⟩ := hcut
        have HBX := Lib.hid hbx
        clear hbx
        go_wp2_with fail
        refine (unless_any _ _ _).mono ?_
        rintro e w4 ⟨rfl, rfl⟩
        go_wp2_with fail
        go_ret2
        refine ⟨?_, (HB1.out.trans (HBC.out.mono (by have := HSZ.out; omega))).trans (HBX.out.mono ?_)⟩
        · rw [HV.out, HVE.out]
          rfl
        · have := HBC.out.size
          have := HSZ.out
          omega
    · have hne : (code != 0) = true := by simpa using h0
      have H0 := Lib.hid h0
      rw [if_neg h0] at HV HVE
      clear h0
      go_wp2_with fail
      go_ret2
      refine ⟨?_, HB1.out.trans (HBC.out.mono (by have := HSZ.out; omega))⟩
      rw [HV.out, HVE.out]
      rfl

end Go.Proofs.YtjegkkpdemoldaaGreatDoor
