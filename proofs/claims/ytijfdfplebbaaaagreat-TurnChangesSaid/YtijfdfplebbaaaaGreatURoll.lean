/-
  The contracts of the specification's Roll and Check.
-/
import Derived.Test.YtijfdfplebbaaaaGreatURef
namespace Go.Proofs.YtijfdfplebbaaaaGreat
open Go.RowKit

namespace Pure
def lastOf (F : Nat → Int) : Nat → Int
  | 0 => 0
  | k + 1 => F k
def rowM (d : RollD) (k : Nat) : Bool := decide (lastOf d.M k + 1 ≤ d.M k ∧ d.M k ≤ 9999)
def lastS (d : RollD) (k : Nat) : Int := lastOf (fun j => d.S (j * 2)) k
def rowS (r : RollX) (d : RollD) (k : Nat) : Bool := decide (lastS d k + 1 ≤ d.S (k * 2) ∧ d.S (k * 2) ≤ 9999) && (!decide (index r.pn d.P (d.S (k * 2)) < 0) && decide (0 ≤ d.S (k * 2 + 1) ∧ d.S (k * 2 + 1) ≤ 1000000))
def lastN (d : RollD) (k : Nat) : Int := lastOf (fun j => (d.N j).n) k
def rowN (r : RollX) (d : RollD) (k : Nat) : Bool := decide (lastN d k + 1 ≤ (d.N k).n ∧ (d.N k).n ≤ 9999) && (!thingBad r d (d.N k).m1 (d.N k).p1 && !thingBad r d (d.N k).m2 (d.N k).p2)
/-- A valid roll as the specification goes through it. -/
structure OkRoll (r : RollX) (d : RollD) : Prop where
  ml : (r.mn : Int) ≤ 4
  sl : (r.sn : Int) ≤ 4
  nl : (r.nn : Int) ≤ 24
  m : ∀ k, k < r.mn → rowM d k = true
  s : ∀ k, k < r.sn → rowS r d k = true
  n : ∀ k, k < r.nn → rowN r d k = true
theorem last_iff (F : Nat → Int) (n : Nat) : (∀ k, k < n → lastOf F k + 1 ≤ F k ∧ F k ≤ 9999) ↔ (∀ k, k < n → 1 ≤ F k ∧ F k ≤ 9999) ∧ ∀ j, j < n - 1 → F j < F (j + 1) := by
  constructor
  · intro h
    have h1 : ∀ k, k < n → 1 ≤ F k := by
      intro k
      induction k with
      | zero => intro hk; have := h 0 hk; simp only [lastOf] at this; omega
      | succ k ih => intro hk; have := ih (by omega); have := h (k + 1) hk; simp only [lastOf] at this; omega
    exact ⟨fun k hk => ⟨h1 k hk, (h k hk).2⟩, fun j hj => by have := (h (j + 1) (by omega)).1; simp only [lastOf] at this; omega⟩
  · rintro ⟨h1, h2⟩ k hk
    refine ⟨?_, (h1 k hk).2⟩
    cases k with
    | zero => have := (h1 0 hk).1; simp only [lastOf]; omega
    | succ k => have := h2 k (by omega); simp only [lastOf]; omega
theorem pressed_index (n : Nat) (P : Nat → Int) (id : Int) : (!decide (index n P id < 0)) = pressed n P id := by
  have h : decide (0 ≤ index n P id) = pressed n P id := firstAt_some
  rw [← h]
  by_cases h2 : index n P id < 0
  · simp [h2]
  · have h3 : 0 ≤ index n P id := by omega
    simp [h3]
theorem roll_iff {r : RollX} {d : RollD} (hp : press r.pn d.P r.wn d.W = true) : roll r d = true ↔ OkRoll r d := by
  have hid : ∀ id, pressed r.pn d.P id = true → 1 ≤ id ∧ id ≤ 9999 := fun id h => by
    simp only [pressed, List.any_eq_true, List.mem_range, beq_iff_eq] at h
    obtain ⟨j, hj, rfl⟩ := h
    have := (press_iff.1 hp).f j hj
    simp only [wrongP, Bool.or_eq_false_iff, Bool.not_eq_false', decide_eq_true_eq] at this
    exact this.1
  unfold roll menOk shiftsOk notesOk inSpan inOrder
  simp only [Bool.and_eq_true, decide_eq_true_eq, Bool.not_eq_true', List.any_eq_false, List.mem_range, Bool.not_eq_true, shiftBad, noteBad, Bool.or_eq_false_iff, Bool.not_eq_false']
  have eM := last_iff d.M r.mn
  have eS := last_iff (fun j => d.S (j * 2)) r.sn
  have eN := last_iff (fun j => (d.N j).n) r.nn
  constructor
  · rintro ⟨⟨⟨⟨a1, a2⟩, a3⟩, ⟨⟨b1, b2⟩, b3⟩⟩, ⟨⟨c1, c2⟩, c3⟩⟩
    have fM := eM.2 ⟨a2, a3⟩
    have fS := eS.2 ⟨fun k hk => hid _ (b2 k hk).1, b3⟩
    have fN := eN.2 ⟨fun k hk => (c2 k hk).1, c3⟩
    refine ⟨a1, b1, c1, fun k hk => decide_eq_true (fM k hk), fun k hk => ?_, fun k hk => ?_⟩
    · simp only [rowS, lastS, pressed_index, Bool.and_eq_true, decide_eq_true_eq]
      exact ⟨decide_eq_true (fS k hk), (b2 k hk).1, (b2 k hk).2⟩
    · simp only [rowN, lastN, Bool.and_eq_true, decide_eq_true_eq, Bool.not_eq_true']
      exact ⟨decide_eq_true (fN k hk), (c2 k hk).2.1, (c2 k hk).2.2⟩
  · rintro ⟨a1, b1, c1, a2, b2, c2⟩
    simp only [rowM, decide_eq_true_eq] at a2
    simp only [rowS, lastS, pressed_index, Bool.and_eq_true, decide_eq_true_eq] at b2
    simp only [rowN, lastN, Bool.and_eq_true, decide_eq_true_eq, Bool.not_eq_true'] at c2
    have fM := eM.1 a2
    have fS := eS.1 (fun k hk => of_decide_eq_true (b2 k hk).1)
    have fN := eN.1 (fun k hk => of_decide_eq_true (c2 k hk).1)
    exact ⟨⟨⟨⟨a1, fM.1⟩, fM.2⟩, ⟨⟨b1, fun k hk => (b2 k hk).2⟩, fS.2⟩⟩, ⟨⟨c1, fun k hk => ⟨fN.1 k hk, (c2 k hk).2⟩⟩, fN.2⟩⟩
theorem roll_no {r : RollX} {d : RollD} (hp : press r.pn d.P r.wn d.W = true) (h : ¬ OkRoll r d) : roll r d = false := by
  cases e : roll r d with
  | false => rfl
  | true => exact absurd ((roll_iff hp).1 e) h
theorem last_bounds {F : Nat → Int} {k : Nat} (h : ∀ j, j < k → lastOf F j + 1 ≤ F j ∧ F j ≤ 9999) : 0 ≤ lastOf F k ∧ lastOf F k ≤ 9999 := by
  cases k with
  | zero => simp [lastOf]
  | succ k =>
    have := ((last_iff F (k + 1)).1 h).1 k (by omega)
    simp only [lastOf]
    omega
end Pure

set_option maxHeartbeats 16000000 in
set_option maxRecDepth 100000 in
/-- **Roll**, the specification's. -/
theorem rRoll_any (r : RollX) (d : RollD) (hN : RollN r) (hp : Pure.press r.pn d.P r.wn d.W = true) (w : World) (hR : RollAt w r d) :
    Calls Tryz.prog 23 #[rollV r] w fun e w' => e = .returned (.bool (Pure.roll r d)) ∧ Below w.heap.size w w' := by
  obtain ⟨W, hW⟩ : ∃ W, w.alloc (rollB r) = W := ⟨_, rfl⟩
  have HB : Hid (Below w.heap.size w W) := Lib.hid (by rw [← hW]; exact below_new _ _)
  have HX : Hid (W.heap[w.heap.size]? = some (rollB r)) := Lib.hid (by rw [← hW]; exact heap_top _ _ rfl)
  have HR := Lib.hid (hR.below HB.out)
  have HP := Lib.hid hp
  clear hR hp
  obtain ⟨res, hres⟩ : ∃ q, Pure.roll r d = q := ⟨_, rfl⟩
  have HRES := Lib.hid hres
  rw [hres]
  clear hres
  have hno : ¬ Pure.OkRoll r d → Value.bool false = Value.bool res := fun h => by rw [← HRES.out, Pure.roll_no HP.out h]
  have HNO := Lib.hid hno
  clear hno
  have x2 := heap_cell HX.out (j := 2) rfl
  have x3 := heap_cell HX.out (j := 3) rfl
  have x4 := heap_cell HX.out (j := 4) rfl
  go_enter Tryz.func23, Tryz.ntmps23
  go_upto_region 1 with fail
  try rw [hW]
  clear hW
  by_cases hm : 4 < (r.mn : Int)
  · have HM := Lib.hid hm
    go_wp2_with fail
    go_ret
    exact ⟨congrArg _ (HNO.out fun h => by have := h.ml; have := HM.out; omega), HB.out⟩
  by_cases hs : 4 < (r.sn : Int)
  · have HM := Lib.hid hs
    go_wp2_with fail
    go_ret
    exact ⟨congrArg _ (HNO.out fun h => by have := h.sl; have := HM.out; omega), HB.out⟩
  by_cases hn : 24 < (r.nn : Int)
  · have HM := Lib.hid hn
    go_wp2_with fail
    go_ret
    exact ⟨congrArg _ (HNO.out fun h => by have := h.nl; have := HM.out; omega), HB.out⟩
  have HL := Lib.hid (show (r.mn : Int) ≤ 4 ∧ (r.sn : Int) ≤ 4 ∧ (r.nn : Int) ≤ 24 from ⟨by omega, by omega, by omega⟩)
  go_wp2_with fail
  clear hm hs hn x2 x3 x4
  go_loopw [3, 5, 29] (fun lv _ i wr => ∃ k : Nat, k ≤ r.mn ∧ i = .int .i64 k ∧ lv = .int .i64 (Pure.lastOf d.M k) ∧ (∀ j, j < k → Pure.rowM d j = true) ∧ wr = W) (fun _ _ i _ => r.mn - (intOf i).toNat)
  case atStart => exact ⟨0, Nat.zero_le _, rfl, rfl, fun j hj => by omega, rfl⟩
  case round =>
    obtain ⟨k, hk, rfl, rfl, hq, rfl⟩ := hrel
    have HQ := Lib.hid hq
    clear hq
    have hlb := Pure.last_bounds (F := d.M) (k := k) (fun j hj => of_decide_eq_true (HQ.out j hj))
    have hmb := HL.out.1
    by_cases hk1 : k < r.mn
    · obtain ⟨lv, hlv⟩ : ∃ l, Pure.lastOf d.M k = l := ⟨_, rfl⟩
      rw [hlv] at hlb ⊢
      have HLV := Lib.hid hlv
      obtain ⟨hl0, hl1⟩ := hlb
      obtain ⟨b, off, hma, hc⟩ := HR.out.m k hk1
      have hk2 : (k : Int) < r.mn := by omega
      rw [hma]
      obtain ⟨q, hqk⟩ : ∃ q, decide (lv + 1 ≤ d.M k ∧ d.M k ≤ 9999) = q := ⟨_, rfl⟩
      have HQK := Lib.hid hqk
      clear hqk hlv hma
      go_wp2_with fail
      refine (rrWithin (d.M k) (lv + 1) 9999 q HQK.out _).mono ?_
      rintro e u ⟨rfl, rfl⟩
      cases q
      · go_wp2_with fail
        go_ret
        exact ⟨congrArg _ (HNO.out fun h => by have h1 := h.m k hk1; unfold Pure.rowM at h1; rw [HLV.out, HQK.out] at h1; cases h1), HB.out⟩
      · go_wp2_with fail
        go_roundw
        case rel => exact ⟨k + 1, by omega, by go_num, rfl, fun j hj => by
          by_cases e : j = k
          · subst e; unfold Pure.rowM; rw [HLV.out]; exact HQK.out
          · exact HQ.out j (by omega), trivial⟩
        case measure => simp [intOf]; omega
    · obtain rfl : k = r.mn := by omega
      have HQM := Lib.hid HQ.out
      clear hlb
      have x3 := heap_cell HX.out (j := 3) rfl
      go_wp2_with fail
      clear x3
      obtain ⟨wo, rfl⟩ : ∃ x, x = wr := ⟨_, rfl⟩
      go_loopw [3, 7, 43] (fun lv _ i wr2 => ∃ k : Nat, k ≤ r.sn ∧ i = .int .i64 k ∧ lv = .int .i64 (Pure.lastS d k) ∧ (∀ j, j < k → Pure.rowS r d j = true) ∧ Below wo.heap.size wo wr2) (fun _ _ i _ => r.sn - (intOf i).toNat)
      case atStart => exact ⟨0, Nat.zero_le _, rfl, rfl, fun j hj => by omega, Below.refl _ _⟩
      case round =>
        obtain ⟨k2, hk2', rfl, rfl, hq, hb⟩ := hrel
        have HQ2 := Lib.hid hq
        have HBK := Lib.hid hb
        have HXK := Lib.hid (heap_lft HX.out hb)
        have HRK := Lib.hid (HR.out.below hb)
        have HBB := Lib.hid (below_thn HB.out hb)
        clear hq hb
        have hlb := Pure.last_bounds (F := fun j => d.S (j * 2)) (k := k2) (fun j hj => by have h1 := HQ2.out j hj; unfold Pure.rowS at h1; rw [Bool.and_eq_true] at h1; exact of_decide_eq_true h1.1)
        have hmb := HL.out.2.1
        by_cases hk1 : k2 < r.sn
        · obtain ⟨lv, hlv⟩ : ∃ l, Pure.lastS d k2 = l := ⟨_, rfl⟩
          have hlb2 : 0 ≤ lv ∧ lv ≤ 9999 := by rw [← hlv]; exact hlb
          rw [hlv]
          have HLV := Lib.hid hlv
          obtain ⟨hl0, hl1⟩ := hlb2
          obtain ⟨b, off, hma, hc⟩ := HRK.out.s (k2 * 2) (by omega)
          have hc1 : wr.cell? ⟨b, off + k2 * 2 + 1, none⟩ = some (.int .i64 (d.S (k2 * 2 + 1))) := by
            have h1 := HRK.out.s
            rw [hma] at h1
            exact nums_row h1 (by omega)
          have hk2 : (k2 : Int) < r.sn := by omega
          rw [hma]
          clear hlb hlv hma
          obtain ⟨U, hU⟩ : ∃ U, wr.alloc (shiftB (d.S (k2 * 2)) (d.S (k2 * 2 + 1))) = U := ⟨_, rfl⟩
          have HBU0 : Hid (Below wo.heap.size wo U) := Lib.hid (by rw [← hU]; exact below_thn HBK.out (below_new _ _))
          have HXU : Hid (U.heap[w.heap.size]? = some (rollB r)) := Lib.hid (by rw [← hU]; exact heap_up HXK.out _)
          have HTU : Hid (U.heap[wr.heap.size]? = some (shiftB (d.S (k2 * 2)) (d.S (k2 * 2 + 1)))) := Lib.hid (by rw [← hU]; exact heap_top _ _ rfl)
          have HRU : Hid (RollAt U r d) := Lib.hid (by rw [← hU]; exact HRK.out.below (below_new _ _))
          have HBU := Lib.hid (below_thn HB.out HBU0.out)
          go_upto_region 15 with fail
          try rw [hU]
          clear hU hc hc1
          obtain ⟨q1, hq1⟩ : ∃ q, decide (lv + 1 ≤ d.S (k2 * 2) ∧ d.S (k2 * 2) ≤ 9999) = q := ⟨_, rfl⟩
          have HQ1 := Lib.hid hq1
          clear hq1
          have t0 := heap_cell HTU.out (j := 0) rfl
          go_wp2_with fail
          refine (rrWithin (d.S (k2 * 2)) (lv + 1) 9999 q1 HQ1.out _).mono ?_
          rintro e u ⟨rfl, rfl⟩
          cases q1
          · go_wp2_with fail
            go_ret
            exact ⟨congrArg _ (HNO.out fun h => by have h1 := h.s k2 hk1; unfold Pure.rowS at h1; rw [HLV.out, HQ1.out] at h1; cases h1), HBU.out⟩
          · have x0 := heap_cell HXU.out (j := 0) rfl
            have x1 := heap_cell HXU.out (j := 1) rfl
            go_wp2_with fail
            refine (rPressing_any r.pa r.pn r.pc r.wa r.wn r.wc d.P (d.S (k2 * 2)) hN.p _ HRU.out.p).mono ?_
            rintro e u2 ⟨rfl, hb⟩
            obtain ⟨ix, hix⟩ : ∃ l, Pure.index r.pn d.P (d.S (k2 * 2)) = l := ⟨_, rfl⟩
            rw [hix]
            have HIX := Lib.hid hix
            have HTU2 := Lib.hid (heap_lft HTU.out hb)
            have HBU2 := Lib.hid (below_thn HBU.out hb)
            have HBU3 := Lib.hid (below_thn HBU0.out hb)
            clear hb hix x0 x1 t0
            by_cases hx : ix < 0
            · have HX9 := Lib.hid hx
              go_wp2_with fail
              go_ret
              exact ⟨congrArg _ (HNO.out fun h => by have h1 := h.s k2 hk1; unfold Pure.rowS at h1; rw [HLV.out, HQ1.out, HIX.out, decide_eq_true HX9.out] at h1; cases h1), HBU2.out⟩
            · have HX9 := Lib.hid hx
              have t1 := heap_cell HTU2.out (j := 1) rfl
              have t0 := heap_cell HTU2.out (j := 0) rfl
              obtain ⟨q3, hq3⟩ : ∃ q, decide (0 ≤ d.S (k2 * 2 + 1) ∧ d.S (k2 * 2 + 1) ≤ 1000000) = q := ⟨_, rfl⟩
              have HQ3 := Lib.hid hq3
              clear hq3
              go_wp2_with fail
              refine (rrWithin (d.S (k2 * 2 + 1)) 0 1000000 q3 HQ3.out _).mono ?_
              rintro e u ⟨rfl, rfl⟩
              cases q3
              · go_wp2_with fail
                go_ret
                exact ⟨congrArg _ (HNO.out fun h => by have h1 := h.s k2 hk1; unfold Pure.rowS at h1; rw [HLV.out, HQ1.out, HIX.out, HQ3.out, decide_eq_false (show ¬ ix < 0 by have := HX9.out; omega)] at h1; cases h1), HBU2.out⟩
              · go_wp2_with fail
                go_roundw
                case rel => exact ⟨k2 + 1, by omega, by go_num, rfl, fun j hj => by
                  by_cases e : j = k2
                  · subst e; unfold Pure.rowS; rw [HLV.out, HQ1.out, HIX.out, HQ3.out, decide_eq_false (show ¬ ix < 0 by have := HX9.out; omega)]; rfl
                  · exact HQ2.out j (by omega), HBU3.out⟩
                case measure => simp [intOf]; omega
        · obtain rfl : k2 = r.sn := by omega
          have HQS := Lib.hid HQ2.out
          clear hlb
          have x4 := heap_cell HXK.out (j := 4) rfl
          go_wp2_with fail
          clear x4
          obtain ⟨wp, rfl⟩ : ∃ x, x = wr := ⟨_, rfl⟩
          go_loopw [3, 9, 73] (fun lv _ i wr2 => ∃ k : Nat, k ≤ r.nn ∧ i = .int .i64 k ∧ lv = .int .i64 (Pure.lastN d k) ∧ (∀ j, j < k → Pure.rowN r d j = true) ∧ Below wp.heap.size wp wr2) (fun _ _ i _ => r.nn - (intOf i).toNat)
          case atStart => exact ⟨0, Nat.zero_le _, rfl, rfl, fun j hj => by omega, Below.refl _ _⟩
          case round =>
            obtain ⟨k2, hk2', rfl, rfl, hq, hb⟩ := hrel
            have HQ2 := Lib.hid hq
            have HBP := Lib.hid hb
            have HXP := Lib.hid (heap_lft HXK.out hb)
            have HRP := Lib.hid (HRK.out.below hb)
            have HBQ := Lib.hid (below_thn HBB.out hb)
            clear hq hb
            have hlb := Pure.last_bounds (F := fun j => (d.N j).n) (k := k2) (fun j hj => by have h1 := HQ2.out j hj; unfold Pure.rowN at h1; rw [Bool.and_eq_true] at h1; exact of_decide_eq_true h1.1)
            have hmb := HL.out.2.2
            by_cases hk1 : k2 < r.nn
            · obtain ⟨lv, hlv⟩ : ∃ l, Pure.lastN d k2 = l := ⟨_, rfl⟩
              have hlb2 : 0 ≤ lv ∧ lv ≤ 9999 := by rw [← hlv]; exact hlb
              rw [hlv]
              have HLV := Lib.hid hlv
              obtain ⟨hl0, hl1⟩ := hlb2
              obtain ⟨b, off, hma, ⟨c0, c1, c2, c3, c4, c5, c6⟩⟩ := HRP.out.n k2 hk1
              have hk2 : (k2 : Int) < r.nn := by omega
              rw [hma]
              clear hlb hlv hma
              obtain ⟨U, hU⟩ : ∃ U, wr.alloc (tnoteB (d.N k2)) = U := ⟨_, rfl⟩
              have HBU0 : Hid (Below wp.heap.size wp U) := Lib.hid (by rw [← hU]; exact below_thn HBP.out (below_new _ _))
              have HXU : Hid (U.heap[w.heap.size]? = some (rollB r)) := Lib.hid (by rw [← hU]; exact heap_up HXP.out _)
              have HTU : Hid (U.heap[wr.heap.size]? = some (tnoteB (d.N k2))) := Lib.hid (by rw [← hU]; exact heap_top _ _ rfl)
              have HRU : Hid (RollAt U r d) := Lib.hid (by rw [← hU]; exact HRP.out.below (below_new _ _))
              have HBU := Lib.hid (below_thn HBB.out HBU0.out)
              go_upto_region 23 with fail
              try rw [hU]
              clear hU c0 c1 c2 c3 c4 c5 c6
              obtain ⟨q1, hq1⟩ : ∃ q, decide (lv + 1 ≤ (d.N k2).n ∧ (d.N k2).n ≤ 9999) = q := ⟨_, rfl⟩
              have HQ1 := Lib.hid hq1
              clear hq1
              have t0 := heap_cell HTU.out (j := 0) rfl
              go_wp2_with fail
              refine (rrWithin (d.N k2).n (lv + 1) 9999 q1 HQ1.out _).mono ?_
              rintro e u ⟨rfl, rfl⟩
              clear t0
              cases q1
              · go_wp2_with fail
                go_ret
                exact ⟨congrArg _ (HNO.out fun h => by have h1 := h.n k2 hk1; unfold Pure.rowN at h1; rw [HLV.out, HQ1.out] at h1; cases h1), HBU.out⟩
              · have x0 := heap_cell HXU.out (j := 0) rfl
                have x1 := heap_cell HXU.out (j := 1) rfl
                have x2 := heap_cell HXU.out (j := 2) rfl
                have x3 := heap_cell HXU.out (j := 3) rfl
                have x4 := heap_cell HXU.out (j := 4) rfl
                have t1 := heap_cell HTU.out (j := 1) rfl
                have t2 := heap_cell HTU.out (j := 2) rfl
                have t3 := heap_cell HTU.out (j := 3) rfl
                obtain ⟨g1, hg1⟩ : ∃ l, Pure.thingBad r d (d.N k2).m1 (d.N k2).p1 = l := ⟨_, rfl⟩
                have HG1 := Lib.hid hg1
                clear hg1
                go_wp2_with fail
                refine (rThing_any r d (d.N k2).m1 (d.N k2).p1 (d.N k2).b1 hN _ HRU.out).mono ?_
                rintro e u2 ⟨rfl, hb⟩
                rw [HG1.out]
                have HTU2 := Lib.hid (heap_lft HTU.out hb)
                have HXU2 := Lib.hid (heap_lft HXU.out hb)
                have HRU2 := Lib.hid (HRU.out.below hb)
                have HBU2 := Lib.hid (below_thn HBU.out hb)
                have HBU3 := Lib.hid (below_thn HBU0.out hb)
                clear hb x0 x1 x2 x3 x4 t1 t2 t3
                cases g1
                · have x0 := heap_cell HXU2.out (j := 0) rfl
                  have x1 := heap_cell HXU2.out (j := 1) rfl
                  have x2 := heap_cell HXU2.out (j := 2) rfl
                  have x3 := heap_cell HXU2.out (j := 3) rfl
                  have x4 := heap_cell HXU2.out (j := 4) rfl
                  have t4 := heap_cell HTU2.out (j := 4) rfl
                  have t5 := heap_cell HTU2.out (j := 5) rfl
                  have t6 := heap_cell HTU2.out (j := 6) rfl
                  have t0 := heap_cell HTU2.out (j := 0) rfl
                  obtain ⟨g2, hg2⟩ : ∃ l, Pure.thingBad r d (d.N k2).m2 (d.N k2).p2 = l := ⟨_, rfl⟩
                  have HG2 := Lib.hid hg2
                  clear hg2
                  go_wp2_with fail
                  refine (rThing_any r d (d.N k2).m2 (d.N k2).p2 (d.N k2).b2 hN _ HRU2.out).mono ?_
                  rintro e u3 ⟨rfl, hb⟩
                  rw [HG2.out]
                  have HTU3 := Lib.hid (heap_lft HTU2.out hb)
                  have HBU4 := Lib.hid (below_thn HBU2.out hb)
                  have HBU5 := Lib.hid (below_thn HBU3.out hb)
                  clear hb x0 x1 x2 x3 x4 t4 t5 t6 t0
                  cases g2
                  · have t0 := heap_cell HTU3.out (j := 0) rfl
                    go_wp2_with fail
                    go_roundw
                    case rel => exact ⟨k2 + 1, by omega, by go_num, rfl, fun j hj => by
                      by_cases e : j = k2
                      · subst e; unfold Pure.rowN; rw [HLV.out, HQ1.out, HG1.out, HG2.out]; rfl
                      · exact HQ2.out j (by omega), HBU5.out⟩
                    case measure => simp [intOf]; omega
                  · go_wp2_with fail
                    go_ret
                    exact ⟨congrArg _ (HNO.out fun h => by have h1 := h.n k2 hk1; unfold Pure.rowN at h1; rw [HLV.out, HQ1.out, HG1.out, HG2.out] at h1; cases h1), HBU4.out⟩
                · go_wp2_with fail
                  go_ret
                  exact ⟨congrArg _ (HNO.out fun h => by have h1 := h.n k2 hk1; unfold Pure.rowN at h1; rw [HLV.out, HQ1.out, HG1.out] at h1; cases h1), HBU2.out⟩
            · obtain rfl : k2 = r.nn := by omega
              go_wp2_with fail
              go_ret
              exact ⟨ret_bool (((Pure.roll_iff HP.out).2 ⟨HL.out.1, HL.out.2.1, HL.out.2.2, HQM.out, HQS.out, HQ2.out⟩).symm.trans HRES.out), HBQ.out⟩

set_option maxHeartbeats 2000000 in
set_option maxRecDepth 100000 in
theorem rPressCheck_any (a : Option Addr) (n c : Nat) (b : Option Addr) (m d : Nat) (F G : Nat → Int) (hn : n ≤ 60) (hm : m ≤ 60) (w : World) (hF : NumsAt w a (n * 4) F) (hG : NumsAt w b (m * 5) G) :
    Calls Tryz.prog 43 #[pressV a n c b m d] w fun e w' => e = .returned (.int .i64 (Pure.err (Pure.press n F m G) 20)) ∧ Below w.heap.size w w' := by
  obtain ⟨W, hW⟩ : ∃ W, w.alloc (pressB a n c b m d) = W := ⟨_, rfl⟩
  have HB : Hid (Below w.heap.size w W) := Lib.hid (by rw [← hW]; exact below_new _ _)
  have HX : Hid (W.heap[w.heap.size]? = some (pressB a n c b m d)) := Lib.hid (by rw [← hW]; exact heap_top _ _ rfl)
  have HF := Lib.hid (hF.below HB.out)
  have HG := Lib.hid (hG.below HB.out)
  clear hF hG
  obtain ⟨q, hq⟩ : ∃ q, Pure.press n F m G = q := ⟨_, rfl⟩
  have HQ := Lib.hid hq
  rw [hq]
  clear hq
  have x0 := heap_cell HX.out (j := 0) rfl
  have x1 := heap_cell HX.out (j := 1) rfl
  go_enter Tryz.func43, Tryz.ntmps43
  go_upto_region 1 with fail
  try rw [hW]
  clear hW
  go_wp2_with fail
  refine (rPress_any a n c b m d F G hn hm _ HF.out HG.out).mono ?_
  rintro e u ⟨rfl, hb⟩
  rw [HQ.out]
  have HB2 := Lib.hid (below_thn HB.out hb)
  clear hb x0 x1
  cases q
  · go_wp2_with fail
    go_ret
    exact ⟨rfl, HB2.out⟩
  · go_wp2_with fail
    go_ret
    exact ⟨rfl, HB2.out⟩
set_option maxHeartbeats 2000000 in
set_option maxRecDepth 100000 in
/-- **Check**, the specification's. -/
theorem rCheck_any (r : RollX) (d : RollD) (hN : RollN r) (w : World) (hR : RollAt w r d) :
    Calls Tryz.prog 22 #[rollV r] w fun e w' => e = .returned (.int .i64 (Pure.checkE r d)) ∧ Below w.heap.size w w' := by
  unfold Pure.checkE
  obtain ⟨W, hW⟩ : ∃ W, w.alloc (rollB r) = W := ⟨_, rfl⟩
  have HB : Hid (Below w.heap.size w W) := Lib.hid (by rw [← hW]; exact below_new _ _)
  have HX : Hid (W.heap[w.heap.size]? = some (rollB r)) := Lib.hid (by rw [← hW]; exact heap_top _ _ rfl)
  have HR := Lib.hid (hR.below HB.out)
  clear hR
  obtain ⟨g, hg⟩ : ∃ q, Pure.press r.pn d.P r.wn d.W = q := ⟨_, rfl⟩
  rw [hg]
  have HG := Lib.hid hg
  clear hg
  obtain ⟨q, hq⟩ : ∃ q, Pure.roll r d = q := ⟨_, rfl⟩
  have HQ := Lib.hid hq
  rw [hq]
  clear hq
  have x0 := heap_cell HX.out (j := 0) rfl
  have x1 := heap_cell HX.out (j := 1) rfl
  go_enter Tryz.func22, Tryz.ntmps22
  go_upto_region 1 with fail
  try rw [hW]
  clear hW
  go_wp2_with fail
  refine (rPressCheck_any r.pa r.pn r.pc r.wa r.wn r.wc d.P d.W hN.p hN.w _ HR.out.p HR.out.g).mono ?_
  rintro e u ⟨rfl, hb⟩
  rw [HG.out]
  have HB2 := Lib.hid (below_thn HB.out hb)
  have HX2 := Lib.hid (heap_lft HX.out hb)
  have HR2 := Lib.hid (HR.out.below hb)
  clear hb x0 x1
  cases g
  · go_wp2_with fail
    go_ret
    exact ⟨rfl, HB2.out⟩
  · have x0 := heap_cell HX2.out (j := 0) rfl
    have x1 := heap_cell HX2.out (j := 1) rfl
    have x2 := heap_cell HX2.out (j := 2) rfl
    have x3 := heap_cell HX2.out (j := 3) rfl
    have x4 := heap_cell HX2.out (j := 4) rfl
    go_wp2_with fail
    refine (rRoll_any r d hN HG.out _ HR2.out).mono ?_
    rintro e u3 ⟨rfl, hb⟩
    rw [HQ.out]
    have HB3 := Lib.hid (below_thn HB2.out hb)
    clear hb x0 x1 x2 x3 x4
    cases q
    · go_wp2_with fail
      go_ret
      exact ⟨rfl, HB3.out⟩
    · go_wp2_with fail
      go_ret
      exact ⟨rfl, HB3.out⟩

end Go.Proofs.YtijfdfplebbaaaaGreat
