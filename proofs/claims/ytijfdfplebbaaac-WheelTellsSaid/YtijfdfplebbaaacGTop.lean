/-
  The contracts of again, geared, Ratio, Hunts and Again.
-/
import Derived.Test.YtijfdfplebbaaacGGear
namespace Go.Proofs.Ytijfdfplebbaaac
open Go.RowKit

namespace Pure
/-- After how many turns the axles of the first k pairs have done whole turns. -/
def agN (F L : Nat → Int) : Nat → Nat
  | 0 => 1
  | k + 1 => lcmN (agN F L k) (lowD (nm F L (k + 1)) (dn F L (k + 1)))
def tri : Nat → Nat
  | 0 => 0
  | k + 1 => tri k + (k + 1)
theorem lcm_pos {x y : Nat} (hx : 1 ≤ x) (hy : 1 ≤ y) : 1 ≤ lcmN x y :=
  Nat.mul_pos (Nat.div_pos (Nat.gcd_le_left y hx) (Nat.gcd_pos_of_pos_left y hx)) hy
theorem lowD_pos {x y : Nat} (hy : 1 ≤ y) : 1 ≤ lowD x y := Nat.div_pos (Nat.gcd_le_right x hy) (Nat.gcd_pos_of_pos_right x hy)
theorem lowD_le {x y : Nat} : lowD x y ≤ y := Nat.div_le_self _ _
def gearC (n : Nat) (F : Nat → Int) (ln : Nat) (L : Nat → Int) : Int := if teethB n F then err (trainB n ln L) 101 else 100
def huntsB (F : Nat → Int) (ln : Nat) (L : Nat → Int) : Bool := !(List.range ln).any fun j => !(((Nat.gcd (tooth F (L (j * 2))) (tooth F (L (j * 2 + 1))) : Nat) : Int) == 1)
def ratN (n : Nat) (F : Nat → Int) (ln : Nat) (L : Nat → Int) : Nat := if gearC n F ln L = 0 then lowN (nm F L ln) (dn F L ln) else 0
def ratD (n : Nat) (F : Nat → Int) (ln : Nat) (L : Nat → Int) : Nat := if gearC n F ln L = 0 then lowD (nm F L ln) (dn F L ln) else 0
def hunC (n : Nat) (F : Nat → Int) (ln : Nat) (L : Nat → Int) : Bool := if gearC n F ln L = 0 then huntsB F ln L else false
def agaC (n : Nat) (F : Nat → Int) (ln : Nat) (L : Nat → Int) : Nat := if gearC n F ln L = 0 then agN F L ln else 0
theorem gearC_zero {n : Nat} {F : Nat → Int} {ln : Nat} {L : Nat → Int} (h : gearC n F ln L = 0) : teethB n F = true ∧ trainB n ln L = true := by
  unfold gearC at h
  split at h
  · refine ⟨by assumption, ?_⟩
    cases e : trainB n ln L with
    | true => rfl
    | false => rw [e] at h; cases h
  · cases h
end Pure
theorem Gears.ag {n : Nat} {F : Nat → Int} {ln : Nat} {L : Nat → Int} (h : Gears n F ln L) : ∀ k, k ≤ ln → 1 ≤ Pure.agN F L k ∧ Pure.agN F L k ≤ 120 ^ Pure.tri k
  | 0, _ => by simp [Pure.agN, Pure.tri]
  | k + 1, hk => by
    obtain ⟨h1, h2⟩ := h.ag k (by omega)
    obtain ⟨_, h3, h4⟩ := h.nm (k + 1) hk
    unfold Pure.agN Pure.tri
    rw [Nat.pow_add]
    exact ⟨Pure.lcm_pos h1 (Pure.lowD_pos h3), Nat.le_trans Pure.lcm_le (Nat.mul_le_mul h2 (Nat.le_trans Pure.lowD_le h4))⟩
theorem Gears.step {n : Nat} {F : Nat → Int} {ln : Nat} {L : Nat → Int} (h : Gears n F ln L) {k : Nat} (hk : k < ln) : Pure.agN F L k ≤ most ∧ Pure.lowD (Pure.nm F L (k + 1)) (Pure.dn F L (k + 1)) ≤ most ∧ Pure.agN F L k * Pure.lowD (Pure.nm F L (k + 1)) (Pure.dn F L (k + 1)) ≤ most := by
  obtain ⟨h1, h2⟩ := h.ag k (by omega)
  obtain ⟨_, h3, h4⟩ := h.nm (k + 1) hk
  have hl := h.l
  have ht : Pure.tri k + (k + 1) ≤ 6 := by
    have : k = 0 ∨ k = 1 ∨ k = 2 := by omega
    rcases this with rfl | rfl | rfl <;> decide
  have h5 := Nat.le_trans (Pure.lowD_le (x := Pure.nm F L (k + 1))) h4
  refine ⟨Nat.le_trans h2 (pow_most (by omega)), Nat.le_trans h5 (pow_most (by omega)), ?_⟩
  refine Nat.le_trans (Nat.mul_le_mul h2 h5) ?_
  rw [← Nat.pow_add]
  exact pow_most ht

theorem partDen (p q : Nat) (w : World) : (Instr.field 29 (partV p q) 1).run Try.prog w = .ok (.int .i64 q) w := by kernel_rfl
set_option maxHeartbeats 8000000 in
set_option maxRecDepth 100000 in
theorem again_any (B mp : Nat) (a : Option Addr) (n c : Nat) (F : Nat → Int) (la : Option Addr) (ln lc : Nat) (L : Nat → Int) (hG : Gears n F ln L) (hcap : ln ≤ lc) (w : World) (hB : w.heap[B]? = some (shedB a n c mp)) (hF : NumsAt w a n F) (hL : NumsAt w la (ln * 2) L) :
    Calls Try.prog 25 #[.pointer (some ⟨B, 0, none⟩), .slice la ln lc] w fun e w' => e = .returned (.int .i64 (Pure.agN F L ln : Nat)) ∧ Below w.heap.size w w' := by
  have HBB := Lib.hid hB
  have HFF := Lib.hid hF
  have HLL := Lib.hid hL
  have HG := Lib.hid hG
  have HCP := Lib.hid hcap
  have hl20 : (ln : Int) ≤ 3 := by have := hG.l; omega
  clear hB hF hL hG hcap
  go_enter Try.func25, Try.ntmps25
  go_wp2_with fail
  go_loopw [5, 6, 9] (fun u _ i wr => ∃ k : Nat, k ≤ ln ∧ i = .int .i64 k ∧ u = .int .i64 (Pure.agN F L k : Nat) ∧ Below w.heap.size w wr) (fun _ _ i _ => ln - (intOf i).toNat)
  case atStart => exact ⟨0, Nat.zero_le _, rfl, rfl, Below.refl _ _⟩
  case round =>
    obtain ⟨k, hk, rfl, rfl, hb⟩ := hrel
    have HBk := Lib.hid hb
    clear hb
    by_cases hk1 : k < ln
    · obtain ⟨b, off, rfl, _⟩ := HLL.out (k * 2) (by omega)
      have n1 : (k : Int) < ln := by omega
      have hrat := ratio_any B mp a n c F (some ⟨b, off, none⟩) (k + 1) lc L (HG.out.le hk1) wr (heap_lft HBB.out HBk.out) (HFF.out.below HBk.out) (fun j hj => (HLL.out.below HBk.out) j (by omega))
      have hst := HG.out.step hk1
      have hag := (HG.out.ag k (by omega)).1
      have hsu : Pure.agN F L (k + 1) = Pure.lcmN (Pure.agN F L k) (Pure.lowD (Pure.nm F L (k + 1)) (Pure.dn F L (k + 1))) := rfl
      obtain ⟨p, hp⟩ : ∃ z, Pure.lowN (Pure.nm F L (k + 1)) (Pure.dn F L (k + 1)) = z := ⟨_, rfl⟩
      obtain ⟨q, hq⟩ : ∃ z, Pure.lowD (Pure.nm F L (k + 1)) (Pure.dn F L (k + 1)) = z := ⟨_, rfl⟩
      obtain ⟨u, hu⟩ : ∃ z, Pure.agN F L k = z := ⟨_, rfl⟩
      rw [hp, hq] at hrat
      rw [hq, hu] at hst hsu
      rw [hu] at hag ⊢
      have HR := Lib.hid hrat
      have HST := Lib.hid (And.intro hst hag)
      have HSU := Lib.hid hsu
      clear hrat hst hag hsu hp hq hu
      have hc1 : (k : Int) + 1 ≤ lc := by have := HCP.out; omega
      have hc2 : ¬ ((k : Int) + 1 < 0) := by omega
      have hw1 : IntKind.i64.wrap ((k : Int) + 1) = (k : Int) + 1 := IntWalk.i64_in _ (by omega)
      go_wp2_with fail
      refine HR.out.mono ?_
      rintro e V ⟨rfl, hb⟩
      have HBV := Lib.hid (below_thn HBk.out hb)
      clear hb hc1 hc2 hw1
      have hfd := partDen p q
      go_wp2_with fail
      refine (lcm_any u q ⟨HST.out.2, HST.out.1.1⟩ HST.out.1.2.1 HST.out.1.2.2 _).mono ?_
      rintro e U ⟨rfl, hb⟩
      have HBU := Lib.hid (below_thn HBV.out hb)
      clear hb
      go_wp2_with fail
      go_roundw
      case rel => exact ⟨k + 1, by omega, by go_num, by rw [HSU.out], HBU.out⟩
      case measure => simp [intOf]; omega
    · obtain rfl : k = ln := by omega
      have n1 : ¬ (k : Int) < k := by omega
      go_wp2_with fail
      go_ret
      exact ⟨rfl, HBk.out⟩

set_option maxHeartbeats 1000000 in
set_option maxRecDepth 100000 in
theorem indexHunts_any (B : Nat) (a : Option Addr) (len cap : Nat) (F : Nat → Int) (q : Nat → Bool) (hl : len ≤ 40) (w : World) (h : NumsAt w a (len * 2) F) (hp : ∀ u j, j < len → Below w.heap.size w u → Calls Try.prog 22 #[.agg #[.int .i64 (F (j * 2)), .int .i64 (F (j * 2 + 1))], .pointer (some ⟨B, 0, none⟩)] u fun e u' => e = .returned (.bool (q j)) ∧ Below u.heap.size u u') :
    Calls Try.prog 34 #[.slice a len cap, .func (.func 22) #[] #[.pointer (some ⟨B, 0, none⟩)]] w fun e w' => e = .returned (.int .i64 (Pure.firstAt q len)) ∧ Below w.heap.size w w' := by
  have HN := Lib.hid h
  have HP := Lib.hid hp
  clear h hp
  go_enter Try.func34, Try.ntmps34
  go_wp2_with fail
  go_loopw [5, 8] (fun _ i wr => ∃ k : Nat, k ≤ len ∧ i = .int .i64 k ∧ (∀ j, j < k → q j = false) ∧ Below w.heap.size w wr) (fun _ i _ => len - (intOf i).toNat)
  case atStart => exact ⟨0, Nat.zero_le _, rfl, fun j hj => by omega, Below.refl _ _⟩
  case round =>
    obtain ⟨k, hk, rfl, hq, hb⟩ := hrel
    have HQ := Lib.hid hq
    have HB := Lib.hid hb
    clear hq hb
    by_cases hk1 : k < len
    · obtain ⟨b, off, rfl, _⟩ := HN.out (k * 2) (by omega)
      have c0 := (HN.out.below HB.out).at (show k * 2 < len * 2 by omega)
      have c1 := nums_row (HN.out.below HB.out) (show k * 2 + 1 < len * 2 by omega)
      have hcl := HP.out wr k hk1 HB.out
      have HC := Lib.hid hcl
      clear hcl
      cases hqk : q k with
      | true =>
        rw [hqk] at HC
        go_wp2_with (go_at_call 22; refine HC.out.mono ?_; rintro e u ⟨rfl, hb2⟩)
        go_ret
        exact ⟨ret_int (Pure.firstAt_hit hk1 HQ.out hqk).symm, below_thn HB.out hb2⟩
      | false =>
        rw [hqk] at HC
        go_wp2_with (go_at_call 22; refine HC.out.mono ?_; rintro e u ⟨rfl, hb2⟩)
        go_roundw
        case rel => exact ⟨k + 1, by omega, by go_num, fun j hj => by
          by_cases e : j = k
          · subst e; exact hqk
          · exact HQ.out j (by omega), below_thn HB.out hb2⟩
        case measure => simp [intOf]; omega
    · obtain rfl : k = len := by omega
      go_wp2_with fail
      go_ret
      exact ⟨ret_int (Pure.firstAt_none HQ.out).symm, HB.out⟩

set_option maxHeartbeats 1000000 in
set_option maxRecDepth 100000 in
theorem containsHunts_any (B : Nat) (a : Option Addr) (len cap : Nat) (F : Nat → Int) (q : Nat → Bool) (hl : len ≤ 40) (w : World) (h : NumsAt w a (len * 2) F) (hp : ∀ u j, j < len → Below w.heap.size w u → Calls Try.prog 22 #[.agg #[.int .i64 (F (j * 2)), .int .i64 (F (j * 2 + 1))], .pointer (some ⟨B, 0, none⟩)] u fun e u' => e = .returned (.bool (q j)) ∧ Below u.heap.size u u') :
    Calls Try.prog 21 #[.slice a len cap, .func (.func 22) #[] #[.pointer (some ⟨B, 0, none⟩)]] w fun e w' => e = .returned (.bool ((List.range len).any q)) ∧ Below w.heap.size w w' := by
  go_enter Try.func21, Try.ntmps21
  go_wp2_with fail
  refine (indexHunts_any B a len cap F q hl w h hp).mono ?_
  rintro e u ⟨rfl, hb⟩
  have HF := Lib.hid (Pure.firstAt_some (q := q) (len := len))
  obtain ⟨x, hx⟩ : ∃ x, Pure.firstAt q len = x := ⟨_, rfl⟩
  rw [hx] at HF ⊢
  clear hx
  go_wp2_with fail
  go_ret
  exact ⟨ret_bool HF.out, hb⟩

/-- What geared answers. -/
def GearOut (n : Nat) (F : Nat → Int) (ln : Nat) (L : Nat → Int) (a : Option Addr) (c : Nat) (w : World) (e : Ending) (w' : World) : Prop :=
  ∃ p, e = .returned (.tuple #[.pointer p, .int .i64 (Pure.gearC n F ln L)]) ∧ (Pure.gearC n F ln L = 0 → ∃ B mp, p = some ⟨B, 0, none⟩ ∧ w'.heap[B]? = some (shedB a n c mp)) ∧ Below w.heap.size w w'
set_option maxHeartbeats 4000000 in
set_option maxRecDepth 100000 in
theorem geared_any (a : Option Addr) (n c : Nat) (F : Nat → Int) (la : Option Addr) (ln lc : Nat) (L : Nat → Int) (hn : n ≤ 20) (hl : ln ≤ 10) (hw : ∀ j, j < ln * 2 → (Lit.int .i64 (L j)).wf = true) (w : World) (hF : NumsAt w a n F) (hL : NumsAt w la (ln * 2) L) :
    Calls Try.prog 16 #[wheelsV a n c, .slice la ln lc] w (GearOut n F ln L a c w) := by
  obtain ⟨W, hW⟩ : ∃ W, w.alloc (wheelsB a n c) = W := ⟨_, rfl⟩
  have HB0 : Hid (Below w.heap.size w W) := Lib.hid (by rw [← hW]; exact below_new _ _)
  have HX : Hid (W.heap[w.heap.size]? = some (wheelsB a n c)) := Lib.hid (by rw [← hW]; exact heap_top _ _ rfl)
  have HFF := Lib.hid (hF.below HB0.out)
  have HLL := Lib.hid (hL.below HB0.out)
  have HW := Lib.hid hw
  clear hF hL hw
  obtain ⟨code, hcode⟩ : ∃ z, Pure.gearC n F ln L = z := ⟨_, rfl⟩
  have HCD := Lib.hid hcode
  unfold GearOut
  rw [hcode]
  clear hcode
  have x0 := heap_cell HX.out (j := 0) rfl
  go_enter Try.func16, Try.ntmps16
  go_upto_region 1 with fail
  try rw [hW]
  clear hW
  go_wp2_with fail
  refine (check_any a n c F hn _ HFF.out).mono ?_
  rintro e u ⟨rfl, hb⟩
  have HXu := Lib.hid (heap_lft HX.out hb)
  have HBu := Lib.hid (below_thn HB0.out hb)
  have HFu := Lib.hid (HFF.out.below hb)
  have HLu := Lib.hid (HLL.out.below hb)
  clear hb x0
  obtain ⟨r, hr⟩ : ∃ z, Pure.teethB n F = z := ⟨_, rfl⟩
  rw [hr]
  have HR := Lib.hid hr
  clear hr
  cases r
  · obtain rfl : code = 100 := by rw [← HCD.out]; simp [Pure.gearC, HR.out]
    have e1 : (Pure.err false 100 != 0) = true := rfl
    go_wp2_with fail
    go_ret2
    exact ⟨none, rfl, fun h => absurd h (by decide), HBu.out⟩
  · have e1 : (Pure.err true 100 != 0) = false := rfl
    have x0 := heap_cell HXu.out (j := 0) rfl
    go_wp2_with fail
    refine (work_any a n c hn _).mono ?_
    rintro e V ⟨B, mp, rfl, h1, h2, h3, h4, h5, hb⟩
    have HFV := Lib.hid (HFu.out.below hb)
    have HLV := Lib.hid (HLu.out.below hb)
    have HBV := Lib.hid (below_thn HBu.out hb)
    have HSH := Lib.hid h1
    have HST : Hid (SetAt V mp n (Pure.freeB n L 0)) := Lib.hid (h2.congr (fun z => Pure.freeB_zero n L z))
    have HNE := Lib.hid h5
    have HMP : Hid (w.heap.size ≤ mp) := Lib.hid (Nat.le_trans HBu.out.size h4)
    have HAP : Hid (∀ x, la = some x → 0 < ln * 2 → x.block ≠ mp) := Lib.hid (fun x hx h0 => by
      obtain ⟨b, off, g0, g1⟩ := HLu.out 0 h0
      rw [hx] at g0
      cases g0
      have := World.block_lt_of_cell? u _ g1
      dsimp only at this ⊢
      omega)
    clear h1 h2 h3 h4 h5 hb x0 e1
    go_wp2_with fail
    refine (fits_any B mp n a n c la ln lc L (by omega) HW.out _ HSH.out HNE.out HST.out HLV.out HAP.out).mono ?_
    rintro e U ⟨rfl, hg⟩
    have HSHU := Lib.hid (grown_heap hg HSH.out HNE.out)
    have HBU : Hid (Below w.heap.size w U) := Lib.hid (HBV.out.grown hg HBV.out.size (fun j e => by cases e; exact HMP.out))
    clear hg
    obtain rfl : code = Pure.err (Pure.trainB n ln L) 101 := by rw [← HCD.out]; simp [Pure.gearC, HR.out]
    go_wp2_with fail
    refine (unless_any _ _ _).mono ?_
    rintro e U2 ⟨rfl, rfl⟩
    go_wp2_with fail
    go_ret2
    exact ⟨some ⟨B, 0, none⟩, rfl, fun _ => ⟨B, mp, rfl, HSHU.out⟩, HBU.out⟩
set_option maxHeartbeats 2000000 in
set_option maxRecDepth 100000 in
theorem huntsOne_any (Bs B mp : Nat) (a : Option Addr) (n c : Nat) (F : Nat → Int) (ln : Nat) (L : Nat → Int) (x y : Int) (hG : Gears n F ln L) (hx : 1 ≤ x ∧ x ≤ n) (hy : 1 ≤ y ∧ y ≤ n) (w : World) (hs : w.heap[Bs]? = some (.cells #[.pointer (some ⟨B, 0, none⟩)] 48)) (hB : w.heap[B]? = some (shedB a n c mp)) (hF : NumsAt w a n F) :
    Calls Try.prog 22 #[pairV x y, .pointer (some ⟨Bs, 0, none⟩)] w fun e w' => e = .returned (.bool (!(((Nat.gcd (Pure.tooth F x) (Pure.tooth F y) : Nat) : Int) == 1))) ∧ Below w.heap.size w w' := by
  obtain ⟨W, hW⟩ : ∃ W, w.alloc (pairB x y) = W := ⟨_, rfl⟩
  have HB0 : Hid (Below w.heap.size w W) := Lib.hid (by rw [← hW]; exact below_new _ _)
  have HX : Hid (W.heap[w.heap.size]? = some (pairB x y)) := Lib.hid (by rw [← hW]; exact heap_top _ _ rfl)
  have hh := hunts_any B mp a n c F ln L x y hG hx hy W (heap_lft hB HB0.out) (hF.below HB0.out)
  obtain ⟨r, hr⟩ : ∃ z, (((Nat.gcd (Pure.tooth F x) (Pure.tooth F y) : Nat) : Int) == 1) = z := ⟨_, rfl⟩
  rw [hr] at hh ⊢
  have HH := Lib.hid hh
  have b0 := heap_cell (heap_lft hs HB0.out) (j := 0) rfl
  clear hh hr hG hx hy hB hF hs
  have x0 := heap_cell HX.out (j := 0) rfl
  have x1 := heap_cell HX.out (j := 1) rfl
  go_enter Try.func22, Try.ntmps22
  go_upto_region 1 with fail
  try rw [hW]
  clear hW
  go_wp2_with fail
  refine HH.out.mono ?_
  rintro e u ⟨rfl, hb⟩
  have HBu := Lib.hid (below_thn HB0.out hb)
  clear hb
  go_wp2_with fail
  go_ret
  exact ⟨rfl, HBu.out⟩

/-- What the tops answer: a value beside the code. -/
def TopOut (v : Value) (code : Int) (w : World) (e : Ending) (w' : World) : Prop := e = .returned (.tuple #[v, .int .i64 code]) ∧ Below w.heap.size w w'
set_option maxHeartbeats 4000000 in
set_option maxRecDepth 100000 in
theorem ratioTop_any (a : Option Addr) (n c : Nat) (F : Nat → Int) (la : Option Addr) (ln lc : Nat) (L : Nat → Int) (hn : n ≤ 20) (hl : ln ≤ 10) (hcap : ln ≤ lc) (hw : ∀ j, j < ln * 2 → (Lit.int .i64 (L j)).wf = true) (w : World) (hF : NumsAt w a n F) (hL : NumsAt w la (ln * 2) L) :
    Calls Try.prog 6 #[wheelsV a n c, .slice la ln lc] w (TopOut (partV (Pure.ratN n F ln L : Nat) (Pure.ratD n F ln L : Nat)) (Pure.gearC n F ln L) w) := by
  obtain ⟨W, hW⟩ : ∃ W, (w.alloc (wheelsB a n c)).alloc (partB 0 0) = W := ⟨_, rfl⟩
  have HB0 : Hid (Below w.heap.size w W) := Lib.hid (by rw [← hW]; exact (below_new _ _).alloc (by simp) _)
  have HX : Hid (W.heap[w.heap.size]? = some (wheelsB a n c)) := Lib.hid (by rw [← hW]; exact heap_up (heap_top _ _ rfl) _)
  have HT : Hid (W.heap[w.heap.size + 1]? = some (partB 0 0)) := Lib.hid (by rw [← hW]; exact heap_top _ _ (by simp))
  have HFF := Lib.hid (hF.below HB0.out)
  have HLL := Lib.hid (hL.below HB0.out)
  have HCP := Lib.hid hcap
  have hge := geared_any a n c F la ln lc L hn hl hw W (hF.below HB0.out) (hL.below HB0.out)
  unfold GearOut at hge
  obtain ⟨code, hcode⟩ : ∃ z, Pure.gearC n F ln L = z := ⟨_, rfl⟩
  have HCD := Lib.hid hcode
  obtain ⟨xn, hxn⟩ : ∃ z, Pure.ratN n F ln L = z := ⟨_, rfl⟩
  obtain ⟨xd, hxd⟩ : ∃ z, Pure.ratD n F ln L = z := ⟨_, rfl⟩
  rw [hxn, hxd]
  have HXN := Lib.hid (And.intro hxn hxd)
  clear hxn hxd
  rw [hcode] at hge ⊢
  have HGE := Lib.hid hge
  clear hF hL hcode hge hw hcap
  have x0 := heap_cell HX.out (j := 0) rfl
  go_enter Try.func6, Try.ntmps6
  go_upto_region 1 with fail
  try rw [hW]
  clear hW
  go_wp2_with fail
  refine HGE.out.mono ?_
  rintro e u ⟨p, rfl, hp, hb⟩
  have HPP := Lib.hid hp
  have HBu := Lib.hid (below_thn HB0.out hb)
  have HFu := Lib.hid (HFF.out.below hb)
  have HLu := Lib.hid (HLL.out.below hb)
  have HTu := Lib.hid (heap_lft HT.out hb)
  clear hb hp x0
  by_cases h0 : code = 0
  rotate_left
  · have hne : (code != 0) = true := by simp [h0]
    have HNE := Lib.hid h0
    clear h0
    obtain rfl : xn = 0 := by rw [← HXN.out.1, Pure.ratN, if_neg (by rw [HCD.out]; exact HNE.out)]
    obtain rfl : xd = 0 := by rw [← HXN.out.2, Pure.ratD, if_neg (by rw [HCD.out]; exact HNE.out)]
    have x0 := heap_cell HTu.out (j := 0) rfl
    have x1 := heap_cell HTu.out (j := 1) rfl
    have f0 := heap_frozen HTu.out 0
    have f1 := heap_frozen HTu.out 1
    go_wp2_with fail
    refine bodyPost_ret (v := .tuple #[partV 0 0, .int .i64 code]) (by simp [results, Try.results6, go_sem, x0, x1]; try rfl) rfl ⟨rfl, ?_⟩
    repeat (first | with_reducible exact HBu.out | with_reducible refine Below.setCell ?_ (by simp) _)
  · subst h0
    obtain ⟨B, mp, rfl, hsh⟩ := HPP.out rfl
    have HSH := Lib.hid hsh
    obtain ⟨hg1, hg2⟩ := Pure.gearC_zero HCD.out
    have HG := Lib.hid (gears_of hg1 hg2).1
    clear hsh hg1 hg2 HPP HGE
    have hra := ratio_any B mp a n c F la ln lc L HG.out u HSH.out HFu.out HLu.out
    obtain ⟨p, hp⟩ : ∃ z, Pure.lowN (Pure.nm F L ln) (Pure.dn F L ln) = z := ⟨_, rfl⟩
    obtain ⟨q, hq⟩ : ∃ z, Pure.lowD (Pure.nm F L ln) (Pure.dn F L ln) = z := ⟨_, rfl⟩
    rw [hp, hq] at hra
    obtain rfl : xn = p := by rw [← HXN.out.1, Pure.ratN, if_pos HCD.out, hp]
    obtain rfl : xd = q := by rw [← HXN.out.2, Pure.ratD, if_pos HCD.out, hq]
    have HRA := Lib.hid hra
    clear hra hp hq
    go_wp2_with fail
    refine HRA.out.mono ?_
    rintro e V ⟨rfl, hb⟩
    have HBV := Lib.hid (below_thn HBu.out hb)
    have HTV := Lib.hid (heap_lft HTu.out hb)
    clear hb
    have x0 := heap_cell HTV.out (j := 0) rfl
    have x1 := heap_cell HTV.out (j := 1) rfl
    have f0 := heap_frozen HTV.out 0
    have f1 := heap_frozen HTV.out 1
    go_wp2_with fail
    refine bodyPost_ret (v := .tuple #[partV xn xd, .int .i64 0]) (by simp [results, Try.results6, go_sem, x0, x1]; try rfl) rfl ⟨rfl, ?_⟩
    repeat (first | with_reducible exact HBV.out | with_reducible refine Below.setCell ?_ (by simp) _)

set_option maxHeartbeats 4000000 in
set_option maxRecDepth 100000 in
theorem huntsTop_any (a : Option Addr) (n c : Nat) (F : Nat → Int) (la : Option Addr) (ln lc : Nat) (L : Nat → Int) (hn : n ≤ 20) (hl : ln ≤ 10) (hcap : ln ≤ lc) (hw : ∀ j, j < ln * 2 → (Lit.int .i64 (L j)).wf = true) (w : World) (hF : NumsAt w a n F) (hL : NumsAt w la (ln * 2) L) :
    Calls Try.prog 8 #[wheelsV a n c, .slice la ln lc] w (TopOut (.bool (Pure.hunC n F ln L)) (Pure.gearC n F ln L) w) := by
  obtain ⟨W, hW⟩ : ∃ W, w.alloc (wheelsB a n c) = W := ⟨_, rfl⟩
  have HB0 : Hid (Below w.heap.size w W) := Lib.hid (by rw [← hW]; exact below_new _ _)
  have HX : Hid (W.heap[w.heap.size]? = some (wheelsB a n c)) := Lib.hid (by rw [← hW]; exact heap_top _ _ rfl)
  have HFF := Lib.hid (hF.below HB0.out)
  have HLL := Lib.hid (hL.below HB0.out)
  have HCP := Lib.hid hcap
  have hge := geared_any a n c F la ln lc L hn hl hw W (hF.below HB0.out) (hL.below HB0.out)
  unfold GearOut at hge
  obtain ⟨code, hcode⟩ : ∃ z, Pure.gearC n F ln L = z := ⟨_, rfl⟩
  have HCD := Lib.hid hcode
  obtain ⟨xn, hxn⟩ : ∃ z, Pure.hunC n F ln L = z := ⟨_, rfl⟩
  rw [hxn]
  have HXN := Lib.hid hxn
  clear hxn
  rw [hcode] at hge ⊢
  have HGE := Lib.hid hge
  clear hF hL hcode hge hw hcap
  have x0 := heap_cell HX.out (j := 0) rfl
  go_enter Try.func8, Try.ntmps8
  go_upto_region 1 with fail
  try rw [hW]
  clear hW
  go_wp2_with fail
  refine HGE.out.mono ?_
  rintro e u ⟨p, rfl, hp, hb⟩
  have HPP := Lib.hid hp
  have HBu := Lib.hid (below_thn HB0.out hb)
  have HFu := Lib.hid (HFF.out.below hb)
  have HLu := Lib.hid (HLL.out.below hb)
  clear hb hp x0
  by_cases h0 : code = 0
  rotate_left
  · have hne : (code != 0) = true := by simp [h0]
    have HNE := Lib.hid h0
    clear h0
    obtain rfl : xn = false := by rw [← HXN.out, Pure.hunC, if_neg (by rw [HCD.out]; exact HNE.out)]
    go_wp2_with fail
    go_ret2
    exact ⟨rfl, by repeat (first | with_reducible exact HBu.out | with_reducible exact below_thn HBu.out (below_new _ _))⟩
  · subst h0
    obtain ⟨B, mp, rfl, hsh⟩ := HPP.out rfl
    have HSH := Lib.hid hsh
    obtain ⟨hg1, hg2⟩ := Pure.gearC_zero HCD.out
    have HG := Lib.hid (gears_of hg1 hg2).1
    clear hsh hg1 hg2 HPP HGE
    obtain ⟨V, hV⟩ : ∃ V, u.alloc (.cells #[.pointer (some ⟨B, 0, none⟩)] 48) = V := ⟨_, rfl⟩
    have hbv : Below u.heap.size u V := by rw [← hV]; exact below_new _ _
    have HBs : Hid (V.heap[u.heap.size]? = some (.cells #[.pointer (some ⟨B, 0, none⟩)] 48)) := Lib.hid (by rw [← hV]; exact heap_top _ _ rfl)
    have HSV := Lib.hid (heap_lft HSH.out hbv)
    have HFV := Lib.hid (HFu.out.below hbv)
    have HLV := Lib.hid (HLu.out.below hbv)
    have HBV := Lib.hid (below_thn HBu.out hbv)
    clear hbv
    have hco := containsHunts_any u.heap.size la ln lc L (fun j => !(((Nat.gcd (Pure.tooth F (L (j * 2))) (Pure.tooth F (L (j * 2 + 1))) : Nat) : Int) == 1)) (by omega) V HLV.out (fun x j hj hb => huntsOne_any u.heap.size B mp a n c F ln L _ _ HG.out (HG.out.p j hj).1 (HG.out.p j hj).2 x (heap_lft HBs.out hb) (heap_lft HSV.out hb) (HFV.out.below hb))
    obtain ⟨r, hr⟩ : ∃ z, (List.range ln).any (fun j => !(((Nat.gcd (Pure.tooth F (L (j * 2))) (Pure.tooth F (L (j * 2 + 1))) : Nat) : Int) == 1)) = z := ⟨_, rfl⟩
    rw [hr] at hco
    obtain rfl : xn = !r := by rw [← HXN.out, Pure.hunC, if_pos HCD.out, Pure.huntsB, hr]
    have HCO := Lib.hid hco
    clear hr hco
    go_upto_region 4 with fail
    try rw [hV]
    clear hV
    go_wp2_with fail
    refine HCO.out.mono ?_
    rintro e M ⟨rfl, hb⟩
    have HBM := Lib.hid (below_thn HBV.out hb)
    clear hb
    go_wp2_with fail
    go_ret2
    exact ⟨rfl, HBM.out⟩

set_option maxHeartbeats 4000000 in
set_option maxRecDepth 100000 in
theorem againTop_any (a : Option Addr) (n c : Nat) (F : Nat → Int) (la : Option Addr) (ln lc : Nat) (L : Nat → Int) (hn : n ≤ 20) (hl : ln ≤ 10) (hcap : ln ≤ lc) (hw : ∀ j, j < ln * 2 → (Lit.int .i64 (L j)).wf = true) (w : World) (hF : NumsAt w a n F) (hL : NumsAt w la (ln * 2) L) :
    Calls Try.prog 10 #[wheelsV a n c, .slice la ln lc] w (TopOut (.int .i64 (Pure.agaC n F ln L : Nat)) (Pure.gearC n F ln L) w) := by
  obtain ⟨W, hW⟩ : ∃ W, w.alloc (wheelsB a n c) = W := ⟨_, rfl⟩
  have HB0 : Hid (Below w.heap.size w W) := Lib.hid (by rw [← hW]; exact below_new _ _)
  have HX : Hid (W.heap[w.heap.size]? = some (wheelsB a n c)) := Lib.hid (by rw [← hW]; exact heap_top _ _ rfl)
  have HFF := Lib.hid (hF.below HB0.out)
  have HLL := Lib.hid (hL.below HB0.out)
  have HCP := Lib.hid hcap
  have hge := geared_any a n c F la ln lc L hn hl hw W (hF.below HB0.out) (hL.below HB0.out)
  unfold GearOut at hge
  obtain ⟨code, hcode⟩ : ∃ z, Pure.gearC n F ln L = z := ⟨_, rfl⟩
  have HCD := Lib.hid hcode
  obtain ⟨xn, hxn⟩ : ∃ z, Pure.agaC n F ln L = z := ⟨_, rfl⟩
  rw [hxn]
  have HXN := Lib.hid hxn
  clear hxn
  rw [hcode] at hge ⊢
  have HGE := Lib.hid hge
  clear hF hL hcode hge hw hcap
  have x0 := heap_cell HX.out (j := 0) rfl
  go_enter Try.func10, Try.ntmps10
  go_upto_region 1 with fail
  try rw [hW]
  clear hW
  go_wp2_with fail
  refine HGE.out.mono ?_
  rintro e u ⟨p, rfl, hp, hb⟩
  have HPP := Lib.hid hp
  have HBu := Lib.hid (below_thn HB0.out hb)
  have HFu := Lib.hid (HFF.out.below hb)
  have HLu := Lib.hid (HLL.out.below hb)
  clear hb hp x0
  by_cases h0 : code = 0
  rotate_left
  · have hne : (code != 0) = true := by simp [h0]
    have HNE := Lib.hid h0
    clear h0
    obtain rfl : xn = 0 := by rw [← HXN.out, Pure.agaC, if_neg (by rw [HCD.out]; exact HNE.out)]
    go_wp2_with fail
    go_ret2
    exact ⟨rfl, HBu.out⟩
  · subst h0
    obtain ⟨B, mp, rfl, hsh⟩ := HPP.out rfl
    have HSH := Lib.hid hsh
    obtain ⟨hg1, hg2⟩ := Pure.gearC_zero HCD.out
    have HG := Lib.hid (gears_of hg1 hg2).1
    clear hsh hg1 hg2 HPP HGE
    have hag := again_any B mp a n c F la ln lc L HG.out HCP.out u HSH.out HFu.out HLu.out
    obtain ⟨q, hq⟩ : ∃ z, Pure.agN F L ln = z := ⟨_, rfl⟩
    rw [hq] at hag
    obtain rfl : xn = q := by rw [← HXN.out, Pure.agaC, if_pos HCD.out, hq]
    have HAG := Lib.hid hag
    clear hag hq
    go_wp2_with fail
    refine HAG.out.mono ?_
    rintro e V ⟨rfl, hb⟩
    have HBV := Lib.hid (below_thn HBu.out hb)
    clear hb
    go_wp2_with fail
    go_ret2
    exact ⟨rfl, HBV.out⟩

end Go.Proofs.Ytijfdfplebbaaac
