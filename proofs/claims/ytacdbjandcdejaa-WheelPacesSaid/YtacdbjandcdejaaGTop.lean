/-
  The contracts of again, geared, Ratio, Hunts and Again.
-/
import Derived.Test.YtacdbjandcdejaaGGear
namespace Go.Proofs.Ytacdbjandcdejaa
open Go.RowKit

namespace Pure
/-- After how many turns the axles of the first k pairs have done whole turns. -/
def agN (F L : Nat → Int) : Nat → Nat
  | 0 => 1
  | k + 1 => lcmN (agN F L k) (lowD (nm F L (k + 1)) (dn F L (k + 1)))
def tri : Nat → Nat
  | 0 => 0
  | k + 1 => tri k + (k + 1)
theorem lcm_pos {x y : Nat} (hx : 1 ≤ x) (hy : 1 ≤ y) : 1 ≤ lcmN x y :=
  Nat.mul_pos (Nat.div_pos (Nat.gcd_le_left y hx) (Nat.gcd_pos_of_pos_left y hx)) hy
theorem lowD_pos {x y : Nat} (hy : 1 ≤ y) : 1 ≤ lowD x y := Nat.div_pos (Nat.gcd_le_right x hy) (Nat.gcd_pos_of_pos_right x hy)
theorem lowD_le {x y : Nat} : lowD x y ≤ y := Nat.div_le_self _ _
def gearC (n : Nat) (F : Nat → Int) (ln : Nat) (L : Nat → Int) : Int := if teethB n F then err (trainB n ln L) 101 else 100
def huntsB (F : Nat → Int) (ln : Nat) (L : Nat → Int) : Bool := !(List.range ln).any fun j => !(((Nat.gcd (tooth F (L (j * 2))) (tooth F (L (j * 2 + 1))) : Nat) : Int) == 1)
def ratN (n : Nat) (F : Nat → Int) (ln : Nat) (L : Nat → Int) : Nat := if gearC n F ln L = 0 then lowN (nm F L ln) (dn F L ln) else 0
def ratD (n : Nat) (F : Nat → Int) (ln : Nat) (L : Nat → Int) : Nat := if gearC n F ln L = 0 then lowD (nm F L ln) (dn F L ln) else 0
def hunC (n : Nat) (F : Nat → Int) (ln : Nat) (L : Nat → Int) : Bool := if gearC n F ln L = 0 then huntsB F ln L else false
def agaC (n : Nat) (F : Nat → Int) (ln : Nat) (L : Nat → Int) : Nat := if gearC n F ln L = 0 then agN F L ln else 0
theorem gearC_zero {n : Nat} {F : Nat → Int} {ln : Nat} {L : Nat → Int} (h : gearC n F ln L = 0) : teethB n F = true ∧ trainB n ln L = true := by
  unfold gearC at h
  split at h
  · refine ⟨by assumption, ?_⟩
    cases e : trainB n ln L with
    | true => rfl
    | false => rw [e] at h; cases h
  · cases h
end Pure
theorem Gears.ag {n : Nat} {F : Nat → Int} {ln : Nat} {L : Nat → Int} (h : Gears n F ln L) : ∀ k, k ≤ ln → 1 ≤ Pure.agN F L k ∧ Pure.agN F L k ≤ 120 ^ Pure.tri k
  | 0, _ => by simp [Pure.agN, Pure.tri]
  | k + 1, hk => by
    obtain ⟨h1, h2⟩ := h.ag k (by omega)
    obtain ⟨_, h3, h4⟩ := h.nm (k + 1) hk
    unfold Pure.agN Pure.tri
    rw [Nat.pow_add]
    exact ⟨Pure.lcm_pos h1 (Pure.lowD_pos h3), Nat.le_trans Pure.lcm_le (Nat.mul_le_mul h2 (Nat.le_trans Pure.lowD_le h4))⟩
theorem Gears.step {n : Nat} {F : Nat → Int} {ln : Nat} {L : Nat → Int} (h : Gears n F ln L) {k : Nat} (hk : k < ln) : Pure.agN F L k ≤ most ∧ Pure.lowD (Pure.nm F L (k + 1)) (Pure.dn F L (k + 1)) ≤ most ∧ Pure.agN F L k * Pure.lowD (Pure.nm F L (k + 1)) (Pure.dn F L (k + 1)) ≤ most := by
  obtain ⟨h1, h2⟩ := h.ag k (by omega)
  obtain ⟨_, h3, h4⟩ := h.nm (k + 1) hk
  have hl := h.l
  have ht : Pure.tri k + (k + 1) ≤ 6 := by
    have : k = 0 ∨ k = 1 ∨ k = 2 := by omega
    rcases this with rfl | rfl | rfl <;> decide
  have h5 := Nat.le_trans (Pure.lowD_le (x := Pure.nm F L (k + 1))) h4
  refine ⟨Nat.le_trans h2 (pow_most (by omega)), Nat.le_trans h5 (pow_most (by omega)), ?_⟩
  refine Nat.le_trans (Nat.mul_le_mul h2 h5) ?_
  rw [← Nat.pow_add]
  exact pow_most ht

theorem partDen (p q : Nat) (w : World) : (Instr.field 55 (partV p q) 1).run Try.prog w = .ok (.int .i64 q) w := by kernel_rfl
/-- What geared answers. -/
def GearOut (n : Nat) (F : Nat → Int) (ln : Nat) (L : Nat → Int) (a : Option Addr) (c : Nat) (w : World) (e : Ending) (w' : World) : Prop :=
  ∃ p, e = .returned (.tuple #[.pointer p, .int .i64 (Pure.gearC n F ln L)]) ∧ (Pure.gearC n F ln L = 0 → ∃ B mp, p = some ⟨B, 0, none⟩ ∧ w'.heap[B]? = some (shedB a n c mp)) ∧ Below w.heap.size w w'
set_option maxHeartbeats 4000000 in
set_option maxRecDepth 100000 in
theorem geared_any (a : Option Addr) (n c : Nat) (F : Nat → Int) (la : Option Addr) (ln lc : Nat) (L : Nat → Int) (hn : n ≤ 20) (hl : ln ≤ 10) (hw : ∀ j, j < ln * 2 → (Lit.int .i64 (L j)).wf = true) (w : World) (hF : NumsAt w a n F) (hL : NumsAt w la (ln * 2) L) :
    Calls Try.prog 15 #[wheelsV a n c, .slice la ln lc] w (GearOut n F ln L a c w) := by
  obtain ⟨W, hW⟩ : ∃ W, w.alloc (wheelsB a n c) = W := ⟨_, rfl⟩
  have HB0 : Hid (Below w.heap.size w W) := Lib.hid (by rw [← hW]; exact below_new _ _)
  have HX : Hid (W.heap[w.heap.size]? = some (wheelsB a n c)) := Lib.hid (by rw [← hW]; exact heap_top _ _ rfl)
  have HFF := Lib.hid (hF.below HB0.out)
  have HLL := Lib.hid (hL.below HB0.out)
  have HW := Lib.hid hw
  clear hF hL hw
  obtain ⟨code, hcode⟩ : ∃ z, Pure.gearC n F ln L = z := ⟨_, rfl⟩
  have HCD := Lib.hid hcode
  unfold GearOut
  rw [hcode]
  clear hcode
  have x0 := heap_cell HX.out (j := 0) rfl
  go_enter Try.func15, Try.ntmps15
  go_upto_region 1 with fail
  try rw [hW]
  clear hW
  go_wp2_with fail
  refine (check_anyG a n c F hn _ HFF.out).mono ?_
  rintro e u ⟨rfl, hb⟩
  have HXu := Lib.hid (heap_lft HX.out hb)
  have HBu := Lib.hid (below_thn HB0.out hb)
  have HFu := Lib.hid (HFF.out.below hb)
  have HLu := Lib.hid (HLL.out.below hb)
  clear hb x0
  obtain ⟨r, hr⟩ : ∃ z, Pure.teethB n F = z := ⟨_, rfl⟩
  rw [hr]
  have HR := Lib.hid hr
  clear hr
  cases r
  · obtain rfl : code = 100 := by rw [← HCD.out]; simp [Pure.gearC, HR.out]
    have e1 : (Pure.err false 100 != 0) = true := rfl
    go_wp2_with fail
    go_ret2
    exact ⟨none, rfl, fun h => absurd h (by decide), HBu.out⟩
  · have e1 : (Pure.err true 100 != 0) = false := rfl
    have x0 := heap_cell HXu.out (j := 0) rfl
    go_wp2_with fail
    refine (work_any a n c hn _).mono ?_
    rintro e V ⟨B, mp, rfl, h1, h2, h3, h4, h5, hb⟩
    have HFV := Lib.hid (HFu.out.below hb)
    have HLV := Lib.hid (HLu.out.below hb)
    have HBV := Lib.hid (below_thn HBu.out hb)
    have HSH := Lib.hid h1
    have HST : Hid (SetAt V mp n (Pure.freeB n L 0)) := Lib.hid (h2.congr (fun z => Pure.freeB_zero n L z))
    have HNE := Lib.hid h5
    have HMP : Hid (w.heap.size ≤ mp) := Lib.hid (Nat.le_trans HBu.out.size h4)
    have HAP : Hid (∀ x, la = some x → 0 < ln * 2 → x.block ≠ mp) := Lib.hid (fun x hx h0 => by
      obtain ⟨b, off, g0, g1⟩ := HLu.out 0 h0
      rw [hx] at g0
      cases g0
      have := World.block_lt_of_cell? u _ g1
      dsimp only at this ⊢
      omega)
    clear h1 h2 h3 h4 h5 hb x0 e1
    go_wp2_with fail
    refine (fits_any B mp n a n c la ln lc L (by omega) HW.out _ HSH.out HNE.out HST.out HLV.out HAP.out).mono ?_
    rintro e U ⟨rfl, hg⟩
    have HSHU := Lib.hid (grown_heap hg HSH.out HNE.out)
    have HBU : Hid (Below w.heap.size w U) := Lib.hid (HBV.out.grown hg HBV.out.size (fun j e => by cases e; exact HMP.out))
    clear hg
    obtain rfl : code = Pure.err (Pure.trainB n ln L) 101 := by rw [← HCD.out]; simp [Pure.gearC, HR.out]
    go_wp2_with fail
    refine (unless_anyG _ _ _).mono ?_
    rintro e U2 ⟨rfl, rfl⟩
    go_wp2_with fail
    go_ret2
    exact ⟨some ⟨B, 0, none⟩, rfl, fun _ => ⟨B, mp, rfl, HSHU.out⟩, HBU.out⟩
/-- What the tops answer: a value beside the code. -/
def TopOut (v : Value) (code : Int) (w : World) (e : Ending) (w' : World) : Prop := e = .returned (.tuple #[v, .int .i64 code]) ∧ Below w.heap.size w w'
end Go.Proofs.Ytacdbjandcdejaa
