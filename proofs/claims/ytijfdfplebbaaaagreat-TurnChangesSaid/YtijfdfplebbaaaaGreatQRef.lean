/-
  The contracts of the specification's own within, Great, Pressing and Press.
-/
import Derived.Test.YtijfdfplebbaaaaGreatQCopy
namespace Go.Proofs.YtijfdfplebbaaaaGreat
open Go.RowKit

theorem setCell_other {w : World} {p : Addr} {v : Value} {b : Nat} (h : b ≠ p.block) : (w.setCell p v).heap[b]? = w.heap[b]? := Below.heap_setCell _ _ _ _ h

namespace Pure
/-- A press that is valid. -/
structure OkPress (n : Nat) (F : Nat → Int) (m : Nat) (G : Nat → Int) : Prop where
  nl : (n : Int) ≤ 10
  ml : (m : Int) ≤ 30
  f : ∀ j, j < n → wrongP (F (j * 4)) (F (j * 4 + 1)) (F (j * 4 + 2)) = false
  l : ∀ j, j < n → F (j * 4 + 3) = 0 ∨ (j : Int) < index n F (F (j * 4 + 3))
  o : ∀ j, j < n - 1 → F (j * 4) < F ((j + 1) * 4) ∧ F (j * 4 + 1) ≤ F ((j + 1) * 4 + 1)
  w : ∀ j, j < m → wrongW n F (G (j * 5)) (G (j * 5 + 1)) (G (j * 5 + 2)) (G (j * 5 + 3)) (G (j * 5 + 4)) = false
  wo : ∀ j, j < m - 1 → G (j * 5) < G ((j + 1) * 5)
theorem press_iff {n : Nat} {F : Nat → Int} {m : Nat} {G : Nat → Int} : press n F m G = true ↔ OkPress n F m G := by
  unfold press fewP fitP ordP leadP fitW ordW inOrder
  simp only [Bool.and_eq_true, decide_eq_true_eq, Bool.not_eq_true', List.any_eq_false, List.mem_range, Bool.not_eq_true]
  constructor
  · rintro ⟨⟨⟨⟨⟨⟨a1, a2⟩, a3⟩, a4⟩, a5⟩, a6⟩, a7⟩
    exact ⟨a1, a2, a3, a5, a4, a6, a7⟩
  · rintro ⟨a1, a2, a3, a5, a4, a6, a7⟩
    exact ⟨⟨⟨⟨⟨⟨a1, a2⟩, a3⟩, a4⟩, a5⟩, a6⟩, a7⟩
theorem press_no {n : Nat} {F : Nat → Int} {m : Nat} {G : Nat → Int} (h : ¬ OkPress n F m G) : press n F m G = false := by
  cases e : press n F m G with
  | false => rfl
  | true => exact absurd (press_iff.1 e) h
end Pure

theorem rWithinE (n lo hi : Int) (r : Bool) (hr : decide (lo ≤ n ∧ n ≤ hi) = r) (w : World) : Calls Tryz.prog 93 #[.int .i64 n, .int .i64 lo, .int .i64 hi] w fun e w' => e = .returned (.bool r) ∧ w = w' := by
  subst hr
  go_enter Tryz.func93, Tryz.ntmps93
  by_cases h : lo ≤ n
  · go_wp2_with fail
    go_ret
    exact ⟨ret_bool (by simp [h]), rfl⟩
  · go_wp2_with fail
    go_ret
    exact ⟨ret_bool (by simp; omega), rfl⟩
theorem great_any (a : Option Addr) (n c : Nat) (b : Option Addr) (m d : Nat) (w : World) : Calls Tryz.prog 12 #[pressV a n c b m d] w fun e w' => e = .returned (.bool (decide (20 < (n : Int)) || decide (50 < (m : Int)))) ∧ Below w.heap.size w w' := by
  go_enter Tryz.func12, Tryz.ntmps12
  by_cases h1 : 20 < (n : Int)
  · go_wp2_with fail
    go_ret
    exact ⟨ret_bool (by simp [h1]), below_new _ _⟩
  · go_wp2_with fail
    go_ret
    exact ⟨ret_bool (by rw [decide_eq_false (show ¬ 20 < (n : Int) by omega)]; simp), below_new _ _⟩

set_option maxHeartbeats 2000000 in
set_option maxRecDepth 100000 in
theorem rPressing_any (a : Option Addr) (n c : Nat) (b : Option Addr) (m d : Nat) (F : Nat → Int) (id : Int) (hn : n ≤ 60) (w : World) (hF : NumsAt w a (n * 4) F) :
    Calls Tryz.prog 45 #[pressV a n c b m d, .int .i64 id] w fun e w' => e = .returned (.int .i64 (Pure.index n F id)) ∧ Below w.heap.size w w' := by
  obtain ⟨W, hW⟩ : ∃ W, w.alloc (pressB a n c b m d) = W := ⟨_, rfl⟩
  have HB : Hid (Below w.heap.size w W) := Lib.hid (by rw [← hW]; exact below_new _ _)
  have HX : Hid (W.heap[w.heap.size]? = some (pressB a n c b m d)) := Lib.hid (by rw [← hW]; exact heap_top _ _ rfl)
  have HP := Lib.hid (hF.below HB.out)
  clear hF
  have x0 := heap_cell HX.out (j := 0) rfl
  have x1 := heap_cell HX.out (j := 1) rfl
  go_enter Tryz.func45, Tryz.ntmps45
  go_upto_region 1 with fail
  try rw [hW]
  clear hW
  go_wp2_with fail
  go_loop [5] (fun i => ∃ k : Nat, k ≤ n ∧ i = .int .i64 k ∧ ∀ j, j < k → (F (j * 4) == id) = false) (fun i => n - (intOf i).toNat)
  case atStart => exact ⟨0, Nat.zero_le _, rfl, fun j hj => by omega⟩
  case round =>
    obtain ⟨k, hk, rfl, hq⟩ := hrel
    have HQ := Lib.hid hq
    clear hq
    by_cases hk1 : k < n
    · obtain ⟨g, off, rfl, _⟩ := HP.out (k * 4) (by omega)
      have n1 : (k : Int) < n := by omega
      have c0 := HP.out.at (show k * 4 < n * 4 by omega)
      cases he : (F (k * 4) == id) with
      | true =>
        go_wp2_with fail
        go_ret
        exact ⟨ret_int (Pure.firstAt_hit hk1 HQ.out he).symm, HB.out⟩
      | false =>
        go_wp2_with fail
        go_round
        case rel => exact ⟨k + 1, by omega, by go_num, fun j hj => by
          by_cases e : j = k
          · subst e; exact he
          · exact HQ.out j (by omega)⟩
        case measure => simp [intOf]; omega
    · obtain rfl : k = n := by omega
      have n1 : ¬ (k : Int) < k := by omega
      go_wp2_with fail
      go_ret
      exact ⟨ret_int (Pure.firstAt_none HQ.out).symm, HB.out⟩

set_option maxHeartbeats 16000000 in
set_option maxRecDepth 100000 in
/-- **Press**, the specification's. -/
theorem rPress_any (a : Option Addr) (n c : Nat) (b : Option Addr) (m d : Nat) (F G : Nat → Int) (hn : n ≤ 60) (hm : m ≤ 60) (w : World) (hF : NumsAt w a (n * 4) F) (hG : NumsAt w b (m * 5) G) :
    Calls Tryz.prog 61 #[pressV a n c b m d] w fun e w' => e = .returned (.bool (Pure.press n F m G)) ∧ Below w.heap.size w w' := by
  obtain ⟨W, hW⟩ : ∃ W, w.alloc (pressB a n c b m d) = W := ⟨_, rfl⟩
  have HB : Hid (Below w.heap.size w W) := Lib.hid (by rw [← hW]; exact below_new _ _)
  have HX : Hid (W.heap[w.heap.size]? = some (pressB a n c b m d)) := Lib.hid (by rw [← hW]; exact heap_top _ _ rfl)
  have HF := Lib.hid (hF.below HB.out)
  have HG := Lib.hid (hG.below HB.out)
  clear hF hG
  have x0 := heap_cell HX.out (j := 0) rfl
  have x1 := heap_cell HX.out (j := 1) rfl
  go_enter Tryz.func61, Tryz.ntmps61
  go_upto_region 1 with fail
  try rw [hW]
  clear hW
  by_cases h1 : 10 < (n : Int)
  · go_wp2_with fail
    go_ret
    exact ⟨ret_bool (Pure.press_no fun g => by have := g.nl; omega).symm, HB.out⟩
  · by_cases h2 : 30 < (m : Int)
    · go_wp2_with fail
      go_ret
      exact ⟨ret_bool (Pure.press_no fun g => by have := g.ml; omega).symm, HB.out⟩
    · have E1 : Hid ((n : Int) ≤ 10) := Lib.hid (by omega)
      have E2 : Hid ((m : Int) ≤ 30) := Lib.hid (by omega)
      clear x0 x1
      have x0 := heap_cell HX.out (j := 0) rfl
      have x1 := heap_cell HX.out (j := 1) rfl
      go_wp2_with fail
      clear x0 x1
      go_loopw [3, 4] (fun i _ wr => ∃ k : Nat, k ≤ n ∧ i = .int .i64 k ∧ (∀ j, j < k → Pure.wrongP (F (j * 4)) (F (j * 4 + 1)) (F (j * 4 + 2)) = false ∧ (F (j * 4 + 3) = 0 ∨ (j : Int) < Pure.index n F (F (j * 4 + 3)))) ∧ (∀ j, j + 1 < k → F (j * 4) < F ((j + 1) * 4) ∧ F (j * 4 + 1) ≤ F ((j + 1) * 4 + 1)) ∧ Below W.heap.size W wr) (fun i _ _ => n - (intOf i).toNat)
      case atStart => exact ⟨0, Nat.zero_le _, rfl, fun j hj => by omega, fun j hj => by omega, Below.refl _ _⟩
      case round =>
        obtain ⟨k, hk, rfl, hq, hqo, hb⟩ := hrel
        have HQa := Lib.hid hq
        have HOa := Lib.hid hqo
        have HBa := Lib.hid hb
        have HXa := Lib.hid (heap_lft HX.out hb)
        have HFa := Lib.hid (HF.out.below hb)
        clear hq hqo hb
        have x0 := heap_cell HXa.out (j := 0) rfl
        have x1 := heap_cell HXa.out (j := 1) rfl
        by_cases hk1 : k < n
        · obtain ⟨g, off, rfl, _⟩ := HFa.out (k * 4) (by omega)
          have n1 : (k : Int) < n := by omega
          have c0 := HFa.out.at (show k * 4 < n * 4 by omega)
          have c1 := nums_row HFa.out (show k * 4 + 1 < n * 4 by omega)
          have c2 := nums_row HFa.out (show k * 4 + 2 < n * 4 by omega)
          have c3 := nums_row HFa.out (show k * 4 + 3 < n * 4 by omega)
          have HP1 : Hid (0 < k → wr.cell? ⟨g, off + (k - 1) * 4, none⟩ = some (.int .i64 (F ((k - 1) * 4))) ∧ wr.cell? ⟨g, off + (k - 1) * 4 + 1, none⟩ = some (.int .i64 (F ((k - 1) * 4 + 1)))) := Lib.hid (fun h0 => ⟨HFa.out.at (show (k - 1) * 4 < n * 4 by omega), nums_row HFa.out (show (k - 1) * 4 + 1 < n * 4 by omega)⟩)
          go_upto_region 7 with fail
          clear c0 c1 c2 c3 x0 x1
          obtain ⟨U, hU⟩ : ∃ U, wr.alloc (ringB (F (k * 4)) (F (k * 4 + 1)) (F (k * 4 + 2)) (F (k * 4 + 3))) = U := ⟨_, rfl⟩
          have HU0 : Hid (Below wr.heap.size wr U) := Lib.hid (by rw [← hU]; exact below_new _ _)
          have HUX : Hid (U.heap[wr.heap.size]? = some (ringB (F (k * 4)) (F (k * 4 + 1)) (F (k * 4 + 2)) (F (k * 4 + 3)))) := Lib.hid (by rw [← hU]; exact heap_top _ _ rfl)
          have HUP : Hid (U.heap[w.heap.size]? = some (pressB (some ⟨g, off, none⟩) n c b m d)) := Lib.hid (heap_lft HXa.out HU0.out)
          have HUF : Hid (NumsAt U (some ⟨g, off, none⟩) (n * 4) F) := Lib.hid (HFa.out.below HU0.out)
          have HUB : Hid (Below w.heap.size w U) := Lib.hid (below_thn HB.out (below_thn HBa.out HU0.out))
          try rw [hU]
          clear hU
          have k0 := heap_cell HUP.out (j := 0) rfl
          have k1 := heap_cell HUP.out (j := 1) rfl
          have b0 := heap_cell HUX.out (j := 0) rfl
          have b1 := heap_cell HUX.out (j := 1) rfl
          have b2 := heap_cell HUX.out (j := 2) rfl
          have b3 := heap_cell HUX.out (j := 3) rfl
          obtain ⟨bd, hbd⟩ : ∃ x, (Pure.wrongP (F (k * 4)) (F (k * 4 + 1)) (F (k * 4 + 2)) || !decide (F (k * 4 + 3) = 0 ∨ (k : Int) < Pure.index n F (F (k * 4 + 3)))) = x := ⟨_, rfl⟩
          have HBD := Lib.hid hbd
          clear hbd
          go_cut [57] from 24 to 57 (fun s wx => s = .bool bd ∧ Below U.heap.size U wx)
          case first =>
            obtain ⟨r0, hr0⟩ : ∃ r, decide ((1 : Int) ≤ F (k * 4) ∧ F (k * 4) ≤ 9999) = r := ⟨_, rfl⟩
            have HR0 := Lib.hid hr0
            clear hr0
            go_wp2_with fail
            refine (rWithinE (F (k * 4)) 1 9999 r0 HR0.out _).mono ?_
            rintro e w' ⟨rfl, rfl⟩
            cases r0
            · go_wp2_with fail
              go_meet
              exact ⟨by rw [← HBD.out]; unfold Pure.wrongP; rw [HR0.out]; simp, Below.refl _ _⟩
            · obtain ⟨r1, hr1⟩ : ∃ r, decide ((0 : Int) ≤ F (k * 4 + 1) ∧ F (k * 4 + 1) ≤ 3652) = r := ⟨_, rfl⟩
              have HR1 := Lib.hid hr1
              clear hr1
              go_wp2_with fail
              refine (rWithinE (F (k * 4 + 1)) 0 3652 r1 HR1.out _).mono ?_
              rintro e w' ⟨rfl, rfl⟩
              cases r1
              · go_wp2_with fail
                go_meet
                exact ⟨by rw [← HBD.out]; unfold Pure.wrongP; rw [HR1.out]; simp, Below.refl _ _⟩
              · obtain ⟨r2, hr2⟩ : ∃ r, decide ((1 : Int) ≤ F (k * 4 + 2) ∧ F (k * 4 + 2) ≤ 6) = r := ⟨_, rfl⟩
                have HR2 := Lib.hid hr2
                clear hr2
                go_wp2_with fail
                refine (rWithinE (F (k * 4 + 2)) 1 6 r2 HR2.out _).mono ?_
                rintro e w' ⟨rfl, rfl⟩
                cases r2
                · go_wp2_with fail
                  go_meet
                  exact ⟨by rw [← HBD.out]; unfold Pure.wrongP; rw [HR2.out]; simp, Below.refl _ _⟩
                · have HW0 : Hid (Pure.wrongP (F (k * 4)) (F (k * 4 + 1)) (F (k * 4 + 2)) = false) := Lib.hid (by unfold Pure.wrongP; rw [HR0.out, HR1.out, HR2.out]; rfl)
                  by_cases ht : F (k * 4 + 3) = 0
                  · have ht' : (F (k * 4 + 3) != 0) = false := by rw [ht]; rfl
                    have HT := Lib.hid ht
                    clear ht
                    go_wp2_with fail
                    go_meet
                    exact ⟨by rw [← HBD.out]; rw [HW0.out]; simp [HT.out], Below.refl _ _⟩
                  · have ht' : (F (k * 4 + 3) != 0) = true := by simpa using ht
                    have HT := Lib.hid ht
                    clear ht
                    go_wp2_with fail
                    refine (rPressing_any (some ⟨g, off, none⟩) n c b m d F (F (k * 4 + 3)) hn _ HUF.out).mono ?_
                    rintro e w' ⟨rfl, hb⟩
                    have HBM := Lib.hid hb
                    clear hb k0 k1 b0 b1 b2 b3
                    obtain ⟨v, hv⟩ : ∃ v, Pure.index n F (F (k * 4 + 3)) = v := ⟨_, rfl⟩
                    rw [hv]
                    have HV := Lib.hid hv
                    clear hv
                    by_cases hle : v ≤ (k : Int)
                    · go_wp2_with fail
                      go_meet
                      exact ⟨by rw [← HBD.out, HW0.out, HV.out]; simp [HT.out, hle], HBM.out⟩
                    · go_wp2_with fail
                      go_meet
                      exact ⟨by rw [← HBD.out, HW0.out, HV.out]; simp [HT.out, show (k : Int) < v by omega], HBM.out⟩
          case rest =>
            obtain ⟨V, rfl⟩ : ∃ x, x = wc := ⟨_, rfl⟩
            obtain ⟨rfl, hb⟩ := hcut
            have HUV := Lib.hid hb
            have HVB : Hid (Below w.heap.size w V) := Lib.hid (below_thn HUB.out hb)
            have HVX := Lib.hid (heap_lft HUX.out hb)
            have HVP := Lib.hid (heap_lft HUP.out hb)
            clear hb k0 k1 b0 b1 b2 b3
            have k0 := heap_cell HVP.out (j := 0) rfl
            have k1 := heap_cell HVP.out (j := 1) rfl
            have b0 := heap_cell HVX.out (j := 0) rfl
            have b1 := heap_cell HVX.out (j := 1) rfl
            have b2 := heap_cell HVX.out (j := 2) rfl
            have b3 := heap_cell HVX.out (j := 3) rfl
            cases bd
            · have HW : Hid (Pure.wrongP (F (k * 4)) (F (k * 4 + 1)) (F (k * 4 + 2)) = false ∧ (F (k * 4 + 3) = 0 ∨ (k : Int) < Pure.index n F (F (k * 4 + 3)))) := Lib.hid (by have h9 := HBD.out; simp only [Bool.or_eq_false_iff, Bool.not_eq_false', decide_eq_true_eq] at h9; exact h9)
              go_upto_region 9 with fail
              by_cases hk0 : k = 0
              · have z1 : decide ((0 : Int) < (k : Int)) = false := decide_eq_false (by omega)
                have z0 : ¬ 0 < k := by omega
                have HOK : Hid (∀ j : Nat, j + 1 = k → F (j * 4) < F ((j + 1) * 4) ∧ F (j * 4 + 1) ≤ F ((j + 1) * 4 + 1)) := Lib.hid (fun _ h => absurd h (by omega))
                clear hk0
                have xx0 := among_below k0
                have xx1 := among_below k1
                have xx2 := among_below b0
                have xx3 := among_below b1
                have xx4 := among_below b2
                have xx5 := among_below b3
                have HSt : Hid (Below V.heap.size V V.drew) := Lib.hid (Below.refl _ _).drew
                have hne : Nonempty (Among (Below V.heap.size V)) := ⟨⟨_, HSt.out⟩⟩
                refine wp_region_class (Below V.heap.size V) (by kernel_rfl) (by kernel_rfl) HSt.out ?_
                repeat (go_big_quiet_step (fail))
                refine wpQuiet_nil ?_
                intro w8 hx
                have HB8 := Lib.hid (among_out hx)
                clear hx hne xx0 xx1 xx2 xx3 xx4 xx5
                go_wp2_with fail
                go_roundw
                case rel => exact ⟨k + 1, by omega, by go_num, fun j hj => by
                  by_cases e : j = k
                  · subst e; exact HW.out
                  · exact HQa.out j (by omega), fun j hj => by
                  by_cases e : j + 1 = k
                  · exact HOK.out j e
                  · exact HOa.out j (by omega), below_thn HBa.out (below_thn HU0.out (below_thn HUV.out HB8.out))⟩
                case measure => simp [intOf]; omega
              · have c8 := below_cell (below_thn HU0.out HUV.out) (HP1.out (by omega)).1
                have c9 := below_cell (below_thn HU0.out HUV.out) (HP1.out (by omega)).2
                obtain ⟨pv, hpv⟩ : ∃ v, F ((k - 1) * 4) = v := ⟨_, rfl⟩
                obtain ⟨pd, hpd⟩ : ∃ v, F ((k - 1) * 4 + 1) = v := ⟨_, rfl⟩
                rw [hpv] at c8
                rw [hpd] at c9
                have HPV := Lib.hid (And.intro hpv hpd)
                clear hpv hpd
                have z1 : decide ((0 : Int) < (k : Int)) = true := decide_eq_true (by omega)
                have z0 : (0 : Int) < k := by omega
                have z6 : 0 < k := by omega
                have z2 : IntKind.i64.wrap ((k : Int) - 1) = (k : Int) - 1 := IntWalk.i64_in _ (by omega)
                have z3 : ((k : Int) - 1).toNat = k - 1 := by omega
                have z4 : (0 : Int) ≤ (k : Int) - 1 := by omega
                have z5 : (k : Int) - 1 < n := by omega
                by_cases ho : pv < F (k * 4)
                · have y1 : decide (F (k * 4) ≤ pv) = false := decide_eq_false (by omega)
                  by_cases hd : pd ≤ F (k * 4 + 1)
                  · have HOK : Hid (∀ j : Nat, j + 1 = k → F (j * 4) < F ((j + 1) * 4) ∧ F (j * 4 + 1) ≤ F ((j + 1) * 4 + 1)) := Lib.hid (fun j h => by subst h; have := HPV.out; rw [Nat.add_sub_cancel] at this; rw [this.1, this.2]; exact ⟨ho, hd⟩)
                    have y2 : decide (F (k * 4 + 1) < pd) = false := decide_eq_false (by omega)
                    have xx0 := among_below k0
                    have xx1 := among_below k1
                    have xx2 := among_below b0
                    have xx3 := among_below b1
                    have xx4 := among_below b2
                    have xx5 := among_below b3
                    have xx6 := among_below c8
                    have xx7 := among_below c9
                    have HSt : Hid (Below V.heap.size V V.drew) := Lib.hid (Below.refl _ _).drew
                    have hne : Nonempty (Among (Below V.heap.size V)) := ⟨⟨_, HSt.out⟩⟩
                    refine wp_region_class (Below V.heap.size V) (by kernel_rfl) (by kernel_rfl) HSt.out ?_
                    repeat (go_big_quiet_step (fail))
                    refine wpQuiet_nil ?_
                    intro w8 hx
                    have HB8 := Lib.hid (among_out hx)
                    clear hx hne xx0 xx1 xx2 xx3 xx4 xx5 xx6 xx7
                    go_wp2_with fail
                    go_roundw
                    case rel => exact ⟨k + 1, by omega, by go_num, fun j hj => by
                      by_cases e : j = k
                      · subst e; exact HW.out
                      · exact HQa.out j (by omega), fun j hj => by
                      by_cases e : j + 1 = k
                      · exact HOK.out j e
                      · exact HOa.out j (by omega), below_thn HBa.out (below_thn HU0.out (below_thn HUV.out HB8.out))⟩
                    case measure => simp [intOf]; omega
                  · have y2 : decide (F (k * 4 + 1) < pd) = true := decide_eq_true (by omega)
                    have xx0 := among_below k0
                    have xx1 := among_below k1
                    have xx2 := among_below b0
                    have xx3 := among_below b1
                    have xx4 := among_below b2
                    have xx5 := among_below b3
                    have xx6 := among_below c8
                    have xx7 := among_below c9
                    have HSt : Hid (Below V.heap.size V V.drew) := Lib.hid (Below.refl _ _).drew
                    have hne : Nonempty (Among (Below V.heap.size V)) := ⟨⟨_, HSt.out⟩⟩
                    refine wp_region_class (Below V.heap.size V) (by kernel_rfl) (by kernel_rfl) HSt.out ?_
                    repeat (go_big_quiet_step (fail))
                    refine wpQuiet_nil ?_
                    intro w8 hx
                    have HB8 := Lib.hid (among_out hx)
                    clear hx hne xx0 xx1 xx2 xx3 xx4 xx5 xx6 xx7
                    go_wp2_with fail
                    go_ret
                    exact ⟨ret_bool (Pure.press_no fun g => by have := (g.o (k - 1) (by omega)).2; rw [show k - 1 + 1 = k by omega, HPV.out.2] at this; omega).symm, below_thn HVB.out HB8.out⟩
                · have y1 : decide (F (k * 4) ≤ pv) = true := decide_eq_true (by omega)
                  have xx0 := among_below k0
                  have xx1 := among_below k1
                  have xx2 := among_below b0
                  have xx3 := among_below b1
                  have xx4 := among_below b2
                  have xx5 := among_below b3
                  have xx6 := among_below c8
                  have xx7 := among_below c9
                  have HSt : Hid (Below V.heap.size V V.drew) := Lib.hid (Below.refl _ _).drew
                  have hne : Nonempty (Among (Below V.heap.size V)) := ⟨⟨_, HSt.out⟩⟩
                  refine wp_region_class (Below V.heap.size V) (by kernel_rfl) (by kernel_rfl) HSt.out ?_
                  repeat (go_big_quiet_step (fail))
                  refine wpQuiet_nil ?_
                  intro w8 hx
                  have HB8 := Lib.hid (among_out hx)
                  clear hx hne xx0 xx1 xx2 xx3 xx4 xx5 xx6 xx7
                  go_wp2_with fail
                  go_ret
                  exact ⟨ret_bool (Pure.press_no fun g => by have := (g.o (k - 1) (by omega)).1; rw [show k - 1 + 1 = k by omega, HPV.out.1] at this; omega).symm, below_thn HVB.out HB8.out⟩
            · go_wp2_with fail
              go_ret
              exact ⟨ret_bool (Pure.press_no fun g => by have h9 := HBD.out; have h1 := g.f k hk1; have h2 := g.l k hk1; rw [h1, decide_eq_true h2] at h9; cases h9).symm, HVB.out⟩
        · obtain rfl : n = k := by omega
          have n1 : ¬ (n : Int) < n := by omega
          go_wp2_with fail
          go_loopw [5, 6] (fun i _ wr => ∃ k : Nat, k ≤ m ∧ i = .int .i64 k ∧ (∀ j, j < k → Pure.wrongW n F (G (j * 5)) (G (j * 5 + 1)) (G (j * 5 + 2)) (G (j * 5 + 3)) (G (j * 5 + 4)) = false) ∧ (∀ j, j + 1 < k → G (j * 5) < G ((j + 1) * 5)) ∧ Below W.heap.size W wr) (fun i _ _ => m - (intOf i).toNat)
          case atStart => exact ⟨0, Nat.zero_le _, rfl, fun j hj => by omega, fun j hj => by omega, HBa.out⟩
          case round =>
            obtain ⟨k, hk, rfl, hq, hqo, hb⟩ := hrel
            have HQb := Lib.hid hq
            have HOb := Lib.hid hqo
            have HBb := Lib.hid hb
            have HXb := Lib.hid (heap_lft HX.out hb)
            have HFb := Lib.hid (HF.out.below hb)
            have HGb := Lib.hid (HG.out.below hb)
            clear hq hqo hb
            have x0 := heap_cell HXb.out (j := 0) rfl
            have x1 := heap_cell HXb.out (j := 1) rfl
            by_cases hk1 : k < m
            · obtain ⟨g, off, rfl, _⟩ := HGb.out (k * 5) (by omega)
              have n1 : (k : Int) < m := by omega
              have c0 := HGb.out.at (show k * 5 < m * 5 by omega)
              have c1 := nums_row HGb.out (show k * 5 + 1 < m * 5 by omega)
              have c2 := nums_row HGb.out (show k * 5 + 2 < m * 5 by omega)
              have c3 := nums_row HGb.out (show k * 5 + 3 < m * 5 by omega)
              have c4 := nums_row HGb.out (show k * 5 + 4 < m * 5 by omega)
              have HP1 : Hid (0 < k → wr.cell? ⟨g, off + (k - 1) * 5, none⟩ = some (.int .i64 (G ((k - 1) * 5)))) := Lib.hid (fun h0 => HGb.out.at (show (k - 1) * 5 < m * 5 by omega))
              go_upto_region 15 with fail
              clear c0 c1 c2 c3 c4 x0 x1
              obtain ⟨U, hU⟩ : ∃ U, wr.alloc (noteB (G (k * 5)) (G (k * 5 + 1)) (G (k * 5 + 2)) (G (k * 5 + 3)) (G (k * 5 + 4))) = U := ⟨_, rfl⟩
              have HU0 : Hid (Below wr.heap.size wr U) := Lib.hid (by rw [← hU]; exact below_new _ _)
              have HUX : Hid (U.heap[wr.heap.size]? = some (noteB (G (k * 5)) (G (k * 5 + 1)) (G (k * 5 + 2)) (G (k * 5 + 3)) (G (k * 5 + 4)))) := Lib.hid (by rw [← hU]; exact heap_top _ _ rfl)
              have HUP : Hid (U.heap[w.heap.size]? = some (pressB a n c (some ⟨g, off, none⟩) m d)) := Lib.hid (heap_lft HXb.out HU0.out)
              have HUF : Hid (NumsAt U a (n * 4) F) := Lib.hid (HFb.out.below HU0.out)
              have HUB : Hid (Below w.heap.size w U) := Lib.hid (below_thn HB.out (below_thn HBb.out HU0.out))
              try rw [hU]
              clear hU
              have k0 := heap_cell HUP.out (j := 0) rfl
              have k1 := heap_cell HUP.out (j := 1) rfl
              have b0 := heap_cell HUX.out (j := 0) rfl
              have b1 := heap_cell HUX.out (j := 1) rfl
              have b2 := heap_cell HUX.out (j := 2) rfl
              have b3 := heap_cell HUX.out (j := 3) rfl
              have b4 := heap_cell HUX.out (j := 4) rfl
              obtain ⟨r0, hr0⟩ : ∃ r, decide ((1 : Int) ≤ G (k * 5) ∧ G (k * 5) ≤ 9999) = r := ⟨_, rfl⟩
              have HR0 := Lib.hid hr0
              clear hr0
              cases r0
              · have xx0 := among_below k0
                have xx1 := among_below k1
                have xx2 := among_below b0
                have xx3 := among_below b1
                have xx4 := among_below b2
                have xx5 := among_below b3
                have xx6 := among_below b4
                have HC0 : Hid (∀ xq : Among (Below U.heap.size U), Calls Tryz.prog 93 #[.int .i64 (G (k * 5)), .int .i64 (1), .int .i64 9999] xq.val fun e w' => e = .returned (.bool false) ∧ ∃ y : Among (Below U.heap.size U), w' = y.val) := Lib.hid (fun xq => calls_class ((rWithinE (G (k * 5)) (1) 9999 false HR0.out xq.val).mono fun e w' h => ⟨h.1, by rw [← h.2]; exact xq.ok⟩))
                have HSt : Hid (Below U.heap.size U U.drew) := Lib.hid (Below.refl _ _).drew
                have hne : Nonempty (Among (Below U.heap.size U)) := ⟨⟨_, HSt.out⟩⟩
                refine wp_region_class (Below U.heap.size U) (by kernel_rfl) (by kernel_rfl) HSt.out ?_
                repeat (go_big_quiet_step ((first | (go_at_call 93; (first | with_reducible exact HC0.out _)))))
                refine wpQuiet_nil ?_
                intro w8 hx
                have HB8 := Lib.hid (among_out hx)
                clear hx hne xx0 xx1 xx2 xx3 xx4 xx5 xx6
                go_wp2_with fail
                go_ret
                exact ⟨ret_bool (Pure.press_no fun g => by have h9 := of_decide_eq_false HR0.out; have := g.w k hk1; unfold Pure.wrongW Pure.okOunces at this; simp at this; omega).symm, below_thn HUB.out HB8.out⟩
              · obtain ⟨v, hv⟩ : ∃ v, Pure.index n F (G (k * 5 + 1)) = v := ⟨_, rfl⟩
                have HV := Lib.hid hv
                clear hv
                by_cases hv0 : v < 0
                · have y1 : decide (v < 0) = true := decide_eq_true hv0
                  have HR1 := Lib.hid hv0
                  clear hv0
                  have xx0 := among_below k0
                  have xx1 := among_below k1
                  have xx2 := among_below b0
                  have xx3 := among_below b1
                  have xx4 := among_below b2
                  have xx5 := among_below b3
                  have xx6 := among_below b4
                  have HC0 : Hid (∀ xq : Among (Below U.heap.size U), Calls Tryz.prog 93 #[.int .i64 (G (k * 5)), .int .i64 (1), .int .i64 9999] xq.val fun e w' => e = .returned (.bool true) ∧ ∃ y : Among (Below U.heap.size U), w' = y.val) := Lib.hid (fun xq => calls_class ((rWithinE (G (k * 5)) (1) 9999 true HR0.out xq.val).mono fun e w' h => ⟨h.1, by rw [← h.2]; exact xq.ok⟩))
                  have HC1 : Hid (∀ xq : Among (Below U.heap.size U), Calls Tryz.prog 45 #[pressV a n c (some ⟨g, off, none⟩) m d, .int .i64 (G (k * 5 + 1))] xq.val fun e w' => e = .returned (.int .i64 v) ∧ ∃ y : Among (Below U.heap.size U), w' = y.val) := Lib.hid (fun xq => calls_class ((rPressing_any a n c (some ⟨g, off, none⟩) m d F (G (k * 5 + 1)) hn xq.val (HUF.out.below xq.ok)).mono fun e w' h => ⟨h.1.trans (ret_int HV.out), xq.ok.trans (h.2.mono xq.ok.size)⟩))
                  have HSt : Hid (Below U.heap.size U U.drew) := Lib.hid (Below.refl _ _).drew
                  have hne : Nonempty (Among (Below U.heap.size U)) := ⟨⟨_, HSt.out⟩⟩
                  refine wp_region_class (Below U.heap.size U) (by kernel_rfl) (by kernel_rfl) HSt.out ?_
                  repeat (go_big_quiet_step ((first | (go_at_call 93; (first | with_reducible exact HC0.out _)) | (go_at_call 45; (first | with_reducible exact HC1.out _)))))
                  refine wpQuiet_nil ?_
                  intro w8 hx
                  have HB8 := Lib.hid (among_out hx)
                  clear hx hne xx0 xx1 xx2 xx3 xx4 xx5 xx6
                  go_wp2_with fail
                  go_ret
                  exact ⟨ret_bool (Pure.press_no fun g => by have h9 := HR1.out; have hv := HV.out; have := g.w k hk1; unfold Pure.wrongW at this; simp at this; omega).symm, below_thn HUB.out HB8.out⟩
                · have y1 : decide (v < 0) = false := decide_eq_false hv0
                  have HR1 := Lib.hid hv0
                  clear hv0
                  obtain ⟨r2, hr2⟩ : ∃ r, decide ((1 : Int) ≤ G (k * 5 + 2) ∧ G (k * 5 + 2) ≤ 6) = r := ⟨_, rfl⟩
                  have HR2 := Lib.hid hr2
                  clear hr2
                  cases r2
                  · have xx0 := among_below k0
                    have xx1 := among_below k1
                    have xx2 := among_below b0
                    have xx3 := among_below b1
                    have xx4 := among_below b2
                    have xx5 := among_below b3
                    have xx6 := among_below b4
                    have HC0 : Hid (∀ xq : Among (Below U.heap.size U), Calls Tryz.prog 93 #[.int .i64 (G (k * 5)), .int .i64 (1), .int .i64 9999] xq.val fun e w' => e = .returned (.bool true) ∧ ∃ y : Among (Below U.heap.size U), w' = y.val) := Lib.hid (fun xq => calls_class ((rWithinE (G (k * 5)) (1) 9999 true HR0.out xq.val).mono fun e w' h => ⟨h.1, by rw [← h.2]; exact xq.ok⟩))
                    have HC1 : Hid (∀ xq : Among (Below U.heap.size U), Calls Tryz.prog 45 #[pressV a n c (some ⟨g, off, none⟩) m d, .int .i64 (G (k * 5 + 1))] xq.val fun e w' => e = .returned (.int .i64 v) ∧ ∃ y : Among (Below U.heap.size U), w' = y.val) := Lib.hid (fun xq => calls_class ((rPressing_any a n c (some ⟨g, off, none⟩) m d F (G (k * 5 + 1)) hn xq.val (HUF.out.below xq.ok)).mono fun e w' h => ⟨h.1.trans (ret_int HV.out), xq.ok.trans (h.2.mono xq.ok.size)⟩))
                    have HC2 : Hid (∀ xq : Among (Below U.heap.size U), Calls Tryz.prog 93 #[.int .i64 (G (k * 5 + 2)), .int .i64 (1), .int .i64 6] xq.val fun e w' => e = .returned (.bool false) ∧ ∃ y : Among (Below U.heap.size U), w' = y.val) := Lib.hid (fun xq => calls_class ((rWithinE (G (k * 5 + 2)) (1) 6 false HR2.out xq.val).mono fun e w' h => ⟨h.1, by rw [← h.2]; exact xq.ok⟩))
                    have HSt : Hid (Below U.heap.size U U.drew) := Lib.hid (Below.refl _ _).drew
                    have hne : Nonempty (Among (Below U.heap.size U)) := ⟨⟨_, HSt.out⟩⟩
                    refine wp_region_class (Below U.heap.size U) (by kernel_rfl) (by kernel_rfl) HSt.out ?_
                    repeat (go_big_quiet_step ((first | (go_at_call 93; (first | with_reducible exact HC0.out _ | with_reducible exact HC2.out _)) | (go_at_call 45; (first | with_reducible exact HC1.out _)))))
                    refine wpQuiet_nil ?_
                    intro w8 hx
                    have HB8 := Lib.hid (among_out hx)
                    clear hx hne xx0 xx1 xx2 xx3 xx4 xx5 xx6
                    go_wp2_with fail
                    go_ret
                    exact ⟨ret_bool (Pure.press_no fun g => by have h9 := of_decide_eq_false HR2.out; have := g.w k hk1; unfold Pure.wrongW Pure.okOunces at this; simp at this; omega).symm, below_thn HUB.out HB8.out⟩
                  · obtain ⟨r3, hr3⟩ : ∃ r, decide ((0 : Int) ≤ G (k * 5 + 3) ∧ G (k * 5 + 3) ≤ 1000000) = r := ⟨_, rfl⟩
                    have HR3 := Lib.hid hr3
                    clear hr3
                    cases r3
                    · have xx0 := among_below k0
                      have xx1 := among_below k1
                      have xx2 := among_below b0
                      have xx3 := among_below b1
                      have xx4 := among_below b2
                      have xx5 := among_below b3
                      have xx6 := among_below b4
                      have HC0 : Hid (∀ xq : Among (Below U.heap.size U), Calls Tryz.prog 93 #[.int .i64 (G (k * 5)), .int .i64 (1), .int .i64 9999] xq.val fun e w' => e = .returned (.bool true) ∧ ∃ y : Among (Below U.heap.size U), w' = y.val) := Lib.hid (fun xq => calls_class ((rWithinE (G (k * 5)) (1) 9999 true HR0.out xq.val).mono fun e w' h => ⟨h.1, by rw [← h.2]; exact xq.ok⟩))
                      have HC1 : Hid (∀ xq : Among (Below U.heap.size U), Calls Tryz.prog 45 #[pressV a n c (some ⟨g, off, none⟩) m d, .int .i64 (G (k * 5 + 1))] xq.val fun e w' => e = .returned (.int .i64 v) ∧ ∃ y : Among (Below U.heap.size U), w' = y.val) := Lib.hid (fun xq => calls_class ((rPressing_any a n c (some ⟨g, off, none⟩) m d F (G (k * 5 + 1)) hn xq.val (HUF.out.below xq.ok)).mono fun e w' h => ⟨h.1.trans (ret_int HV.out), xq.ok.trans (h.2.mono xq.ok.size)⟩))
                      have HC2 : Hid (∀ xq : Among (Below U.heap.size U), Calls Tryz.prog 93 #[.int .i64 (G (k * 5 + 2)), .int .i64 (1), .int .i64 6] xq.val fun e w' => e = .returned (.bool true) ∧ ∃ y : Among (Below U.heap.size U), w' = y.val) := Lib.hid (fun xq => calls_class ((rWithinE (G (k * 5 + 2)) (1) 6 true HR2.out xq.val).mono fun e w' h => ⟨h.1, by rw [← h.2]; exact xq.ok⟩))
                      have HC3 : Hid (∀ xq : Among (Below U.heap.size U), Calls Tryz.prog 93 #[.int .i64 (G (k * 5 + 3)), .int .i64 (0), .int .i64 1000000] xq.val fun e w' => e = .returned (.bool false) ∧ ∃ y : Among (Below U.heap.size U), w' = y.val) := Lib.hid (fun xq => calls_class ((rWithinE (G (k * 5 + 3)) (0) 1000000 false HR3.out xq.val).mono fun e w' h => ⟨h.1, by rw [← h.2]; exact xq.ok⟩))
                      have HSt : Hid (Below U.heap.size U U.drew) := Lib.hid (Below.refl _ _).drew
                      have hne : Nonempty (Among (Below U.heap.size U)) := ⟨⟨_, HSt.out⟩⟩
                      refine wp_region_class (Below U.heap.size U) (by kernel_rfl) (by kernel_rfl) HSt.out ?_
                      repeat (go_big_quiet_step ((first | (go_at_call 93; (first | with_reducible exact HC0.out _ | with_reducible exact HC2.out _ | with_reducible exact HC3.out _)) | (go_at_call 45; (first | with_reducible exact HC1.out _)))))
                      refine wpQuiet_nil ?_
                      intro w8 hx
                      have HB8 := Lib.hid (among_out hx)
                      clear hx hne xx0 xx1 xx2 xx3 xx4 xx5 xx6
                      go_wp2_with fail
                      go_ret
                      exact ⟨ret_bool (Pure.press_no fun g => by have h9 := of_decide_eq_false HR3.out; have := g.w k hk1; unfold Pure.wrongW Pure.okOunces at this; simp at this; omega).symm, below_thn HUB.out HB8.out⟩
                    · obtain ⟨r4, hr4⟩ : ∃ r, decide ((G (k * 5 + 3) : Int) ≤ G (k * 5 + 4) ∧ G (k * 5 + 4) ≤ 1000000) = r := ⟨_, rfl⟩
                      have HR4 := Lib.hid hr4
                      clear hr4
                      cases r4
                      · have xx0 := among_below k0
                        have xx1 := among_below k1
                        have xx2 := among_below b0
                        have xx3 := among_below b1
                        have xx4 := among_below b2
                        have xx5 := among_below b3
                        have xx6 := among_below b4
                        have HC0 : Hid (∀ xq : Among (Below U.heap.size U), Calls Tryz.prog 93 #[.int .i64 (G (k * 5)), .int .i64 (1), .int .i64 9999] xq.val fun e w' => e = .returned (.bool true) ∧ ∃ y : Among (Below U.heap.size U), w' = y.val) := Lib.hid (fun xq => calls_class ((rWithinE (G (k * 5)) (1) 9999 true HR0.out xq.val).mono fun e w' h => ⟨h.1, by rw [← h.2]; exact xq.ok⟩))
                        have HC1 : Hid (∀ xq : Among (Below U.heap.size U), Calls Tryz.prog 45 #[pressV a n c (some ⟨g, off, none⟩) m d, .int .i64 (G (k * 5 + 1))] xq.val fun e w' => e = .returned (.int .i64 v) ∧ ∃ y : Among (Below U.heap.size U), w' = y.val) := Lib.hid (fun xq => calls_class ((rPressing_any a n c (some ⟨g, off, none⟩) m d F (G (k * 5 + 1)) hn xq.val (HUF.out.below xq.ok)).mono fun e w' h => ⟨h.1.trans (ret_int HV.out), xq.ok.trans (h.2.mono xq.ok.size)⟩))
                        have HC2 : Hid (∀ xq : Among (Below U.heap.size U), Calls Tryz.prog 93 #[.int .i64 (G (k * 5 + 2)), .int .i64 (1), .int .i64 6] xq.val fun e w' => e = .returned (.bool true) ∧ ∃ y : Among (Below U.heap.size U), w' = y.val) := Lib.hid (fun xq => calls_class ((rWithinE (G (k * 5 + 2)) (1) 6 true HR2.out xq.val).mono fun e w' h => ⟨h.1, by rw [← h.2]; exact xq.ok⟩))
                        have HC3 : Hid (∀ xq : Among (Below U.heap.size U), Calls Tryz.prog 93 #[.int .i64 (G (k * 5 + 3)), .int .i64 (0), .int .i64 1000000] xq.val fun e w' => e = .returned (.bool true) ∧ ∃ y : Among (Below U.heap.size U), w' = y.val) := Lib.hid (fun xq => calls_class ((rWithinE (G (k * 5 + 3)) (0) 1000000 true HR3.out xq.val).mono fun e w' h => ⟨h.1, by rw [← h.2]; exact xq.ok⟩))
                        have HC4 : Hid (∀ xq : Among (Below U.heap.size U), Calls Tryz.prog 93 #[.int .i64 (G (k * 5 + 4)), .int .i64 (G (k * 5 + 3)), .int .i64 1000000] xq.val fun e w' => e = .returned (.bool false) ∧ ∃ y : Among (Below U.heap.size U), w' = y.val) := Lib.hid (fun xq => calls_class ((rWithinE (G (k * 5 + 4)) (G (k * 5 + 3)) 1000000 false HR4.out xq.val).mono fun e w' h => ⟨h.1, by rw [← h.2]; exact xq.ok⟩))
                        have HSt : Hid (Below U.heap.size U U.drew) := Lib.hid (Below.refl _ _).drew
                        have hne : Nonempty (Among (Below U.heap.size U)) := ⟨⟨_, HSt.out⟩⟩
                        refine wp_region_class (Below U.heap.size U) (by kernel_rfl) (by kernel_rfl) HSt.out ?_
                        repeat (go_big_quiet_step ((first | (go_at_call 93; (first | with_reducible exact HC0.out _ | with_reducible exact HC2.out _ | with_reducible exact HC3.out _ | with_reducible exact HC4.out _)) | (go_at_call 45; (first | with_reducible exact HC1.out _)))))
                        refine wpQuiet_nil ?_
                        intro w8 hx
                        have HB8 := Lib.hid (among_out hx)
                        clear hx hne xx0 xx1 xx2 xx3 xx4 xx5 xx6
                        go_wp2_with fail
                        go_ret
                        exact ⟨ret_bool (Pure.press_no fun g => by have h9 := of_decide_eq_false HR4.out; have := g.w k hk1; unfold Pure.wrongW Pure.okOunces at this; simp at this; omega).symm, below_thn HUB.out HB8.out⟩
                      · have HW : Hid (Pure.wrongW n F (G (k * 5)) (G (k * 5 + 1)) (G (k * 5 + 2)) (G (k * 5 + 3)) (G (k * 5 + 4)) = false) := Lib.hid (by have h0 := of_decide_eq_true HR0.out; have h2 := of_decide_eq_true HR2.out; have h3 := of_decide_eq_true HR3.out; have h4 := of_decide_eq_true HR4.out; have h1 := HR1.out; have hv := HV.out; unfold Pure.wrongW Pure.okOunces; simp; omega)
                        by_cases hk0 : k = 0
                        · have z1 : decide ((0 : Int) < (k : Int)) = false := decide_eq_false (by omega)
                          have z0 : ¬ 0 < k := by omega
                          have HOK : Hid (∀ j : Nat, j + 1 = k → G (j * 5) < G ((j + 1) * 5)) := Lib.hid (fun _ h => absurd h (by omega))
                          clear hk0
                          have xx0 := among_below k0
                          have xx1 := among_below k1
                          have xx2 := among_below b0
                          have xx3 := among_below b1
                          have xx4 := among_below b2
                          have xx5 := among_below b3
                          have xx6 := among_below b4
                          have HC0 : Hid (∀ xq : Among (Below U.heap.size U), Calls Tryz.prog 93 #[.int .i64 (G (k * 5)), .int .i64 (1), .int .i64 9999] xq.val fun e w' => e = .returned (.bool true) ∧ ∃ y : Among (Below U.heap.size U), w' = y.val) := Lib.hid (fun xq => calls_class ((rWithinE (G (k * 5)) (1) 9999 true HR0.out xq.val).mono fun e w' h => ⟨h.1, by rw [← h.2]; exact xq.ok⟩))
                          have HC1 : Hid (∀ xq : Among (Below U.heap.size U), Calls Tryz.prog 45 #[pressV a n c (some ⟨g, off, none⟩) m d, .int .i64 (G (k * 5 + 1))] xq.val fun e w' => e = .returned (.int .i64 v) ∧ ∃ y : Among (Below U.heap.size U), w' = y.val) := Lib.hid (fun xq => calls_class ((rPressing_any a n c (some ⟨g, off, none⟩) m d F (G (k * 5 + 1)) hn xq.val (HUF.out.below xq.ok)).mono fun e w' h => ⟨h.1.trans (ret_int HV.out), xq.ok.trans (h.2.mono xq.ok.size)⟩))
                          have HC2 : Hid (∀ xq : Among (Below U.heap.size U), Calls Tryz.prog 93 #[.int .i64 (G (k * 5 + 2)), .int .i64 (1), .int .i64 6] xq.val fun e w' => e = .returned (.bool true) ∧ ∃ y : Among (Below U.heap.size U), w' = y.val) := Lib.hid (fun xq => calls_class ((rWithinE (G (k * 5 + 2)) (1) 6 true HR2.out xq.val).mono fun e w' h => ⟨h.1, by rw [← h.2]; exact xq.ok⟩))
                          have HC3 : Hid (∀ xq : Among (Below U.heap.size U), Calls Tryz.prog 93 #[.int .i64 (G (k * 5 + 3)), .int .i64 (0), .int .i64 1000000] xq.val fun e w' => e = .returned (.bool true) ∧ ∃ y : Among (Below U.heap.size U), w' = y.val) := Lib.hid (fun xq => calls_class ((rWithinE (G (k * 5 + 3)) (0) 1000000 true HR3.out xq.val).mono fun e w' h => ⟨h.1, by rw [← h.2]; exact xq.ok⟩))
                          have HC4 : Hid (∀ xq : Among (Below U.heap.size U), Calls Tryz.prog 93 #[.int .i64 (G (k * 5 + 4)), .int .i64 (G (k * 5 + 3)), .int .i64 1000000] xq.val fun e w' => e = .returned (.bool true) ∧ ∃ y : Among (Below U.heap.size U), w' = y.val) := Lib.hid (fun xq => calls_class ((rWithinE (G (k * 5 + 4)) (G (k * 5 + 3)) 1000000 true HR4.out xq.val).mono fun e w' h => ⟨h.1, by rw [← h.2]; exact xq.ok⟩))
                          have HSt : Hid (Below U.heap.size U U.drew) := Lib.hid (Below.refl _ _).drew
                          have hne : Nonempty (Among (Below U.heap.size U)) := ⟨⟨_, HSt.out⟩⟩
                          refine wp_region_class (Below U.heap.size U) (by kernel_rfl) (by kernel_rfl) HSt.out ?_
                          repeat (go_big_quiet_step ((first | (go_at_call 93; (first | with_reducible exact HC0.out _ | with_reducible exact HC2.out _ | with_reducible exact HC3.out _ | with_reducible exact HC4.out _)) | (go_at_call 45; (first | with_reducible exact HC1.out _)))))
                          refine wpQuiet_nil ?_
                          intro w8 hx
                          have HB8 := Lib.hid (among_out hx)
                          clear hx hne xx0 xx1 xx2 xx3 xx4 xx5 xx6
                          go_wp2_with fail
                          go_roundw
                          case rel => exact ⟨k + 1, by omega, by go_num, fun j hj => by
                            by_cases e : j = k
                            · subst e; exact HW.out
                            · exact HQb.out j (by omega), fun j hj => by
                            by_cases e : j + 1 = k
                            · exact HOK.out j e
                            · exact HOb.out j (by omega), below_thn HBb.out (below_thn HU0.out HB8.out)⟩
                          case measure => simp [intOf]; omega
                        · have c9 := below_cell HU0.out (HP1.out (by omega))
                          obtain ⟨pv, hpv⟩ : ∃ v, G ((k - 1) * 5) = v := ⟨_, rfl⟩
                          rw [hpv] at c9
                          have HPV := Lib.hid hpv
                          clear hpv
                          have z1 : decide ((0 : Int) < (k : Int)) = true := decide_eq_true (by omega)
                          have z0 : (0 : Int) < k := by omega
                          have z6 : 0 < k := by omega
                          have z2 : IntKind.i64.wrap ((k : Int) - 1) = (k : Int) - 1 := IntWalk.i64_in _ (by omega)
                          have z3 : ((k : Int) - 1).toNat = k - 1 := by omega
                          have z4 : (0 : Int) ≤ (k : Int) - 1 := by omega
                          have z5 : (k : Int) - 1 < m := by omega
                          by_cases ho : pv < G (k * 5)
                          · have HOK : Hid (∀ j : Nat, j + 1 = k → G (j * 5) < G ((j + 1) * 5)) := Lib.hid (fun j h => by subst h; have := HPV.out; rw [Nat.add_sub_cancel] at this; rw [this]; exact ho)
                            have xx0 := among_below k0
                            have xx1 := among_below k1
                            have xx2 := among_below b0
                            have xx3 := among_below b1
                            have xx4 := among_below b2
                            have xx5 := among_below b3
                            have xx6 := among_below b4
                            have xx7 := among_below c9
                            have HC0 : Hid (∀ xq : Among (Below U.heap.size U), Calls Tryz.prog 93 #[.int .i64 (G (k * 5)), .int .i64 (1), .int .i64 9999] xq.val fun e w' => e = .returned (.bool true) ∧ ∃ y : Among (Below U.heap.size U), w' = y.val) := Lib.hid (fun xq => calls_class ((rWithinE (G (k * 5)) (1) 9999 true HR0.out xq.val).mono fun e w' h => ⟨h.1, by rw [← h.2]; exact xq.ok⟩))
                            have HC1 : Hid (∀ xq : Among (Below U.heap.size U), Calls Tryz.prog 45 #[pressV a n c (some ⟨g, off, none⟩) m d, .int .i64 (G (k * 5 + 1))] xq.val fun e w' => e = .returned (.int .i64 v) ∧ ∃ y : Among (Below U.heap.size U), w' = y.val) := Lib.hid (fun xq => calls_class ((rPressing_any a n c (some ⟨g, off, none⟩) m d F (G (k * 5 + 1)) hn xq.val (HUF.out.below xq.ok)).mono fun e w' h => ⟨h.1.trans (ret_int HV.out), xq.ok.trans (h.2.mono xq.ok.size)⟩))
                            have HC2 : Hid (∀ xq : Among (Below U.heap.size U), Calls Tryz.prog 93 #[.int .i64 (G (k * 5 + 2)), .int .i64 (1), .int .i64 6] xq.val fun e w' => e = .returned (.bool true) ∧ ∃ y : Among (Below U.heap.size U), w' = y.val) := Lib.hid (fun xq => calls_class ((rWithinE (G (k * 5 + 2)) (1) 6 true HR2.out xq.val).mono fun e w' h => ⟨h.1, by rw [← h.2]; exact xq.ok⟩))
                            have HC3 : Hid (∀ xq : Among (Below U.heap.size U), Calls Tryz.prog 93 #[.int .i64 (G (k * 5 + 3)), .int .i64 (0), .int .i64 1000000] xq.val fun e w' => e = .returned (.bool true) ∧ ∃ y : Among (Below U.heap.size U), w' = y.val) := Lib.hid (fun xq => calls_class ((rWithinE (G (k * 5 + 3)) (0) 1000000 true HR3.out xq.val).mono fun e w' h => ⟨h.1, by rw [← h.2]; exact xq.ok⟩))
                            have HC4 : Hid (∀ xq : Among (Below U.heap.size U), Calls Tryz.prog 93 #[.int .i64 (G (k * 5 + 4)), .int .i64 (G (k * 5 + 3)), .int .i64 1000000] xq.val fun e w' => e = .returned (.bool true) ∧ ∃ y : Among (Below U.heap.size U), w' = y.val) := Lib.hid (fun xq => calls_class ((rWithinE (G (k * 5 + 4)) (G (k * 5 + 3)) 1000000 true HR4.out xq.val).mono fun e w' h => ⟨h.1, by rw [← h.2]; exact xq.ok⟩))
                            have HSt : Hid (Below U.heap.size U U.drew) := Lib.hid (Below.refl _ _).drew
                            have hne : Nonempty (Among (Below U.heap.size U)) := ⟨⟨_, HSt.out⟩⟩
                            refine wp_region_class (Below U.heap.size U) (by kernel_rfl) (by kernel_rfl) HSt.out ?_
                            repeat (go_big_quiet_step ((first | (go_at_call 93; (first | with_reducible exact HC0.out _ | with_reducible exact HC2.out _ | with_reducible exact HC3.out _ | with_reducible exact HC4.out _)) | (go_at_call 45; (first | with_reducible exact HC1.out _)))))
                            refine wpQuiet_nil ?_
                            intro w8 hx
                            have HB8 := Lib.hid (among_out hx)
                            clear hx hne xx0 xx1 xx2 xx3 xx4 xx5 xx6 xx7
                            go_wp2_with fail
                            go_roundw
                            case rel => exact ⟨k + 1, by omega, by go_num, fun j hj => by
                              by_cases e : j = k
                              · subst e; exact HW.out
                              · exact HQb.out j (by omega), fun j hj => by
                              by_cases e : j + 1 = k
                              · exact HOK.out j e
                              · exact HOb.out j (by omega), below_thn HBb.out (below_thn HU0.out HB8.out)⟩
                            case measure => simp [intOf]; omega
                          · have xx0 := among_below k0
                            have xx1 := among_below k1
                            have xx2 := among_below b0
                            have xx3 := among_below b1
                            have xx4 := among_below b2
                            have xx5 := among_below b3
                            have xx6 := among_below b4
                            have xx7 := among_below c9
                            have HC0 : Hid (∀ xq : Among (Below U.heap.size U), Calls Tryz.prog 93 #[.int .i64 (G (k * 5)), .int .i64 (1), .int .i64 9999] xq.val fun e w' => e = .returned (.bool true) ∧ ∃ y : Among (Below U.heap.size U), w' = y.val) := Lib.hid (fun xq => calls_class ((rWithinE (G (k * 5)) (1) 9999 true HR0.out xq.val).mono fun e w' h => ⟨h.1, by rw [← h.2]; exact xq.ok⟩))
                            have HC1 : Hid (∀ xq : Among (Below U.heap.size U), Calls Tryz.prog 45 #[pressV a n c (some ⟨g, off, none⟩) m d, .int .i64 (G (k * 5 + 1))] xq.val fun e w' => e = .returned (.int .i64 v) ∧ ∃ y : Among (Below U.heap.size U), w' = y.val) := Lib.hid (fun xq => calls_class ((rPressing_any a n c (some ⟨g, off, none⟩) m d F (G (k * 5 + 1)) hn xq.val (HUF.out.below xq.ok)).mono fun e w' h => ⟨h.1.trans (ret_int HV.out), xq.ok.trans (h.2.mono xq.ok.size)⟩))
                            have HC2 : Hid (∀ xq : Among (Below U.heap.size U), Calls Tryz.prog 93 #[.int .i64 (G (k * 5 + 2)), .int .i64 (1), .int .i64 6] xq.val fun e w' => e = .returned (.bool true) ∧ ∃ y : Among (Below U.heap.size U), w' = y.val) := Lib.hid (fun xq => calls_class ((rWithinE (G (k * 5 + 2)) (1) 6 true HR2.out xq.val).mono fun e w' h => ⟨h.1, by rw [← h.2]; exact xq.ok⟩))
                            have HC3 : Hid (∀ xq : Among (Below U.heap.size U), Calls Tryz.prog 93 #[.int .i64 (G (k * 5 + 3)), .int .i64 (0), .int .i64 1000000] xq.val fun e w' => e = .returned (.bool true) ∧ ∃ y : Among (Below U.heap.size U), w' = y.val) := Lib.hid (fun xq => calls_class ((rWithinE (G (k * 5 + 3)) (0) 1000000 true HR3.out xq.val).mono fun e w' h => ⟨h.1, by rw [← h.2]; exact xq.ok⟩))
                            have HC4 : Hid (∀ xq : Among (Below U.heap.size U), Calls Tryz.prog 93 #[.int .i64 (G (k * 5 + 4)), .int .i64 (G (k * 5 + 3)), .int .i64 1000000] xq.val fun e w' => e = .returned (.bool true) ∧ ∃ y : Among (Below U.heap.size U), w' = y.val) := Lib.hid (fun xq => calls_class ((rWithinE (G (k * 5 + 4)) (G (k * 5 + 3)) 1000000 true HR4.out xq.val).mono fun e w' h => ⟨h.1, by rw [← h.2]; exact xq.ok⟩))
                            have HSt : Hid (Below U.heap.size U U.drew) := Lib.hid (Below.refl _ _).drew
                            have hne : Nonempty (Among (Below U.heap.size U)) := ⟨⟨_, HSt.out⟩⟩
                            refine wp_region_class (Below U.heap.size U) (by kernel_rfl) (by kernel_rfl) HSt.out ?_
                            repeat (go_big_quiet_step ((first | (go_at_call 93; (first | with_reducible exact HC0.out _ | with_reducible exact HC2.out _ | with_reducible exact HC3.out _ | with_reducible exact HC4.out _)) | (go_at_call 45; (first | with_reducible exact HC1.out _)))))
                            refine wpQuiet_nil ?_
                            intro w8 hx
                            have HB8 := Lib.hid (among_out hx)
                            clear hx hne xx0 xx1 xx2 xx3 xx4 xx5 xx6 xx7
                            go_wp2_with fail
                            go_ret
                            exact ⟨ret_bool (Pure.press_no fun g => by have := g.wo (k - 1) (by omega); rw [show k - 1 + 1 = k by omega, HPV.out] at this; omega).symm, below_thn HUB.out HB8.out⟩
            · obtain rfl : m = k := by omega
              have n1 : ¬ (m : Int) < m := by omega
              go_wp2_with fail
              go_ret
              exact ⟨ret_bool (Pure.press_iff.2 ⟨E1.out, E2.out, fun j hj => (HQa.out j hj).1, fun j hj => (HQa.out j hj).2, fun j hj => HOa.out j (by omega), HQb.out, fun j hj => HOb.out j (by omega)⟩).symm, below_thn HB.out HBb.out⟩

end Go.Proofs.YtijfdfplebbaaaaGreat
