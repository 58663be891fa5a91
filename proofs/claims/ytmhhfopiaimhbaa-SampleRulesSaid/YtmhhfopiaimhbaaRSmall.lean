/-
  The contract of the specification's own Smallest.
-/
import Derived.Test.YtmhhfopiaimhbaaRRules
import Derived.Test.YtmhhfopiaimhbaaLeastMath
namespace Go.Proofs.Ytmhhfopiaimhbaa
open Go.RowKit Go.Shelf

namespace Pure
/-- The first good rule, found row by row. -/
theorem least_is {b : Nat} {good bad p q r s x y : Int} (h0 : 0 ≤ good) (h1 : good < bad) (h2 : bad ≤ b) (hp : 0 ≤ p) (hr : 0 ≤ r) (x0 : 0 ≤ x) (y0 : 0 ≤ y) (y1 : y ≤ x) (hg : okRule b good bad p q r s (x, y) = true)
    (hl : ∀ u v : Int, 0 ≤ u → 0 ≤ v → v ≤ u → u < x → okRule b good bad p q r s (u, v) = false) (hm : ∀ v : Int, 0 ≤ v → v < y → okRule b good bad p q r s (x, v) = false) : least b good bad p q r s = (x, y) := by
  obtain ⟨k1, ⟨k2, k3, k4, k5⟩, k6⟩ := least_some (q := q) (s := s) h0 h1 h2 hp hr
  cases hL : least b good bad p q r s with
  | mk X Y =>
  rw [hL] at k1 k2 k3 k4 k5 k6
  dsimp only at k2 k3 k4 k5 k6
  have e1 : x ≤ X := Int.not_lt.1 fun h => by rw [hl X Y k2 k4 k5 h] at k1; cases k1
  obtain ⟨rfl, e2⟩ := k6 x y x0 e1 y0 y1 hg
  have e3 : y ≤ Y := Int.not_lt.1 fun h => by rw [hm Y k4 h] at k1; cases k1
  obtain rfl : y = Y := by omega
  rfl
end Pure

set_option maxHeartbeats 4000000 in
set_option maxRecDepth 100000 in
theorem rSmallest_any (b lo hi good bad p q r s : Int) (w : World) :
    Calls Try.prog 12 #[cargoV b lo hi, .int .i64 good, .int .i64 bad, .agg #[.int .i64 p, .int .i64 q], .agg #[.int .i64 r, .int .i64 s]] w fun e w' =>
      e = .returned (.tuple #[.agg #[.int .i64 (Pure.pick (Pure.leastE b lo hi good bad p q r s) (Pure.least b.toNat good bad p q r s).1), .int .i64 (Pure.pick (Pure.leastE b lo hi good bad p q r s) (Pure.least b.toNat good bad p q r s).2)], .int .i64 (Pure.leastE b lo hi good bad p q r s)]) ∧ Below w.heap.size w w' := by
  obtain ⟨k1, h1⟩ : ∃ z, Pure.okCargo b lo hi = z := ⟨_, rfl⟩
  obtain ⟨k3, h3⟩ : ∃ z, Pure.riskE lo hi good bad p q r s = z := ⟨_, rfl⟩
  have HE : Hid (Pure.leastE b lo hi good bad p q r s = if k1 then k3 else 10) := Lib.hid (by
    unfold Pure.leastE
    rw [Pure.firstL_cons, h1]
    show (if Pure.err k1 10 = 0 then Pure.riskE lo hi good bad p q r s else Pure.err k1 10) = _
    rw [h3]
    cases k1 <;> rfl)
  have H1 := Lib.hid h1
  have H3 := Lib.hid h3
  clear h1 h3
  go_enter Try.func12, Try.ntmps12
  go_wp2_with fail
  obtain ⟨W1, hW1⟩ : ∃ v, (((w.alloc (.cells #[.int .i64 b, .int .i64 lo, .int .i64 hi] 25)).alloc (.cells #[.int .i64 p, .int .i64 q] 31)).alloc (.cells #[.int .i64 r, .int .i64 s] 31)).alloc (.cells #[.int .i64 0, .int .i64 0] 27) = v := ⟨_, rfl⟩
  have HA : Hid (W1.heap[w.heap.size]? = some (.cells #[.int .i64 b, .int .i64 lo, .int .i64 hi] 25) ∧ W1.heap[w.heap.size + 1]? = some (.cells #[.int .i64 p, .int .i64 q] 31) ∧ W1.heap[w.heap.size + 1 + 1]? = some (.cells #[.int .i64 r, .int .i64 s] 31) ∧ W1.heap[w.heap.size + 1 + 1 + 1]? = some (.cells #[.int .i64 0, .int .i64 0] 27)) := by rw [← hW1]; exact Lib.hid ⟨heap_up (heap_up (heap_up (heap_top w _ rfl) _) _) _, heap_up (heap_up (heap_top _ _ (by simp)) _) _, heap_up (heap_top _ _ (by simp)) _, heap_top _ _ (by simp)⟩
  have HB : Hid (Below w.heap.size w W1) := by rw [← hW1]; exact Lib.hid (((((Below.refl _ _).alloc (Nat.le_refl _) _).alloc (by simp; try omega) _).alloc (by simp; try omega) _).alloc (by simp; try omega) _)
  rw [hW1]
  clear hW1
  refine (rCargo_any b lo hi _).mono ?_
  rintro e w' ⟨rfl, hw1⟩
  obtain ⟨HA1, HB1⟩ : Hid (w'.heap[w.heap.size]? = some (.cells #[.int .i64 b, .int .i64 lo, .int .i64 hi] 25) ∧ w'.heap[w.heap.size + 1]? = some (.cells #[.int .i64 p, .int .i64 q] 31) ∧ w'.heap[w.heap.size + 1 + 1]? = some (.cells #[.int .i64 r, .int .i64 s] 31) ∧ w'.heap[w.heap.size + 1 + 1 + 1]? = some (.cells #[.int .i64 0, .int .i64 0] 27)) ∧ Hid (Below w.heap.size w w') := by
    rw [hw1]
    have hb := (Below.refl W1.heap.size W1).alloc (Nat.le_refl _) (.cells #[.int .i64 b, .int .i64 lo, .int .i64 hi] 25)
    exact ⟨Lib.hid ⟨heap_lft HA.out.1 hb, heap_lft HA.out.2.1 hb, heap_lft HA.out.2.2.1 hb, heap_lft HA.out.2.2.2 hb⟩, Lib.hid (below_thn HB.out hb)⟩
  clear hw1
  obtain ⟨w1, rfl⟩ : ∃ v, v = w' := ⟨_, rfl⟩
  rw [H1.out]
  have e0 := heap_cell HA1.out.1 (j := 0) rfl
  have e1 := heap_cell HA1.out.1 (j := 1) rfl
  have e2 := heap_cell HA1.out.1 (j := 2) rfl
  have g0 := heap_cell HA1.out.2.1 (j := 0) rfl
  have g1 := heap_cell HA1.out.2.1 (j := 1) rfl
  have j0 := heap_cell HA1.out.2.2.1 (j := 0) rfl
  have j1 := heap_cell HA1.out.2.2.1 (j := 1) rfl
  have z0 := heap_cell HA1.out.2.2.2 (j := 0) rfl
  have z1 := heap_cell HA1.out.2.2.2 (j := 1) rfl
  cases k1
  · have f0 := heap_frozen HA1.out.2.2.2 0
    have f1 := heap_frozen HA1.out.2.2.2 1
    go_wp2_with fail
    refine bodyPost_ret (v := .tuple #[.agg #[.int .i64 0, .int .i64 0], .int .i64 10]) (by simp [results, Try.results12, go_sem, z0, z1]) rfl ⟨?_, ?_⟩
    · rw [HE.out]
      rfl
    · exact (HB1.out.setCell (p := ⟨w.heap.size + 1 + 1 + 1, 0, none⟩) (by simp; omega) _).setCell (p := ⟨w.heap.size + 1 + 1 + 1, 1, none⟩) (by simp; omega) _
  · go_wp2_with fail
    clear e0 e1 e2 g0 g1 j0 j1 z0 z1
    refine (rRisked_any b lo hi good bad p q r s _).mono ?_
    rintro e w' ⟨rfl, hw1⟩
    obtain ⟨HA3, HB3⟩ : Hid (w'.heap[w.heap.size]? = some (.cells #[.int .i64 b, .int .i64 lo, .int .i64 hi] 25) ∧ w'.heap[w.heap.size + 1]? = some (.cells #[.int .i64 p, .int .i64 q] 31) ∧ w'.heap[w.heap.size + 1 + 1]? = some (.cells #[.int .i64 r, .int .i64 s] 31) ∧ w'.heap[w.heap.size + 1 + 1 + 1]? = some (.cells #[.int .i64 0, .int .i64 0] 27)) ∧ Hid (Below w.heap.size w w') := by
      have hb := hw1
      exact ⟨Lib.hid ⟨heap_lft HA1.out.1 hb, heap_lft HA1.out.2.1 hb, heap_lft HA1.out.2.2.1 hb, heap_lft HA1.out.2.2.2 hb⟩, Lib.hid (below_thn HB1.out hb)⟩
    clear hw1
    obtain ⟨w3, rfl⟩ : ∃ v, v = w' := ⟨_, rfl⟩
    rw [H3.out]
    have e0 := heap_cell HA3.out.1 (j := 0) rfl
    have e1 := heap_cell HA3.out.1 (j := 1) rfl
    have e2 := heap_cell HA3.out.1 (j := 2) rfl
    have g0 := heap_cell HA3.out.2.1 (j := 0) rfl
    have g1 := heap_cell HA3.out.2.1 (j := 1) rfl
    have j0 := heap_cell HA3.out.2.2.1 (j := 0) rfl
    have j1 := heap_cell HA3.out.2.2.1 (j := 1) rfl
    have z0 := heap_cell HA3.out.2.2.2 (j := 0) rfl
    have z1 := heap_cell HA3.out.2.2.2 (j := 1) rfl
    by_cases hz : k3 = 0
    · have m1 := H1.out
      have m3 := H3.out
      rw [hz] at m3
      unfold Pure.riskE at m3
      have m4 := Pure.firstL_zero m3
      have m5 := Pure.err_zero (m4 (Pure.err (Pure.okIn lo hi good && Pure.okIn lo hi bad) 2) (by simp)) (by decide)
      have m6 := Pure.err_zero (m4 (Pure.err (Pure.okParts 2 (Pure.two p r) (Pure.two q s)) 12) (by simp)) (by decide)
      have m9 := Pure.err_zero (m4 (Pure.err (decide (good < bad)) 2) (by simp)) (by decide)
      rw [Bool.and_eq_true] at m5
      rw [decide_eq_true_eq] at m9
      obtain ⟨m7, m8⟩ := Pure.okParts_two m6
      unfold Pure.okCargo at m1
      unfold Pure.okIn at m5
      simp only [decide_eq_true_eq] at m1 m5
      obtain ⟨b1, b2, b3, b4, b5⟩ := m1
      obtain ⟨⟨n1, n2⟩, n3, n4⟩ := m5
      clear m3 m4 m6
      subst hz
      replace HE : Hid (Pure.leastE b lo hi good bad p q r s = 0) := Lib.hid (by rw [HE.out]; rfl)
      obtain ⟨bn, rfl⟩ : ∃ bn : Nat, b = bn := ⟨b.toNat, by omega⟩
      obtain ⟨ok, hok⟩ : ∃ ok : Int → Int → Bool, (fun x y => Pure.okRule bn good bad p q r s (x, y)) = ok := ⟨_, rfl⟩
      have HOK : Hid (∀ x y, Pure.okRule bn good bad p q r s (x, y) = ok x y) := Lib.hid (fun x y => by rw [← hok])
      have HLAST : Hid (ok bn good = true) := Lib.hid (by rw [← HOK.out]; exact Pure.all_good (by omega) m9 (by omega) (by omega) (by omega))
      have HIS : Hid (∀ x y : Int, 0 ≤ x → x ≤ bn → 0 ≤ y → y ≤ x → ok x y = true → (∀ u v : Int, 0 ≤ u → 0 ≤ v → v ≤ u → u < x → ok u v = false) → (∀ v : Int, 0 ≤ v → v < y → ok x v = false) → Pure.least bn good bad p q r s = (x, y)) := Lib.hid (fun x y x0 _ y0 y1 hg hl hm =>
        Pure.least_is (by omega) m9 (by omega) (by omega) (by omega) x0 y0 y1 (by rw [HOK.out]; exact hg) (fun u v a c d e => by rw [HOK.out]; exact hl u v a c d e) (fun v a c => by rw [HOK.out]; exact hm v a c))
      clear hok
      go_wp2_with fail
      clear e0 e1 e2 g0 g1 j0 j1 z0 z1
      go_loopw [13] (fun i wr => ∃ n : Nat, n ≤ bn + 1 ∧ i = .int .i64 n ∧ (∀ u v : Int, 0 ≤ u → 0 ≤ v → v ≤ u → u < n → ok u v = false) ∧ Below w3.heap.size w3 wr) (fun i _ => bn + 1 - (intOf i).toNat)
      case atStart => exact ⟨0, Nat.zero_le _, rfl, fun u v a c d e => by omega, Below.refl _ _⟩
      case round =>
        obtain ⟨wo, rfl⟩ : ∃ x, x = wr := ⟨_, rfl⟩
        obtain ⟨n, hn, rfl, hall, hbr⟩ := hrel
        have HALL := Lib.hid hall
        have HBR := Lib.hid hbr
        have HA4 : Hid (wo.heap[w.heap.size]? = some (.cells #[.int .i64 bn, .int .i64 lo, .int .i64 hi] 25) ∧ wo.heap[w.heap.size + 1]? = some (.cells #[.int .i64 p, .int .i64 q] 31) ∧ wo.heap[w.heap.size + 1 + 1]? = some (.cells #[.int .i64 r, .int .i64 s] 31) ∧ wo.heap[w.heap.size + 1 + 1 + 1]? = some (.cells #[.int .i64 0, .int .i64 0] 27)) := Lib.hid ⟨heap_lft HA3.out.1 hbr, heap_lft HA3.out.2.1 hbr, heap_lft HA3.out.2.2.1 hbr, heap_lft HA3.out.2.2.2 hbr⟩
        clear hall hbr
        by_cases hlt : n < bn + 1
        · have hnb : (n : Int) ≤ bn := by omega
          have e0 := heap_cell HA4.out.1 (j := 0) rfl
          go_wp2_with fail
          clear e0
          go_loopw [14] (fun i wr => ∃ k : Nat, k ≤ n + 1 ∧ i = .int .i64 k ∧ (∀ v : Int, 0 ≤ v → v < k → ok n v = false) ∧ Below wo.heap.size wo wr) (fun i _ => n + 1 - (intOf i).toNat)
          case atStart => exact ⟨0, Nat.zero_le _, rfl, fun v a c => by omega, Below.refl _ _⟩
          case round =>
            obtain ⟨k, hk, rfl, hrow, hbq⟩ := hrel
            have HROW := Lib.hid hrow
            have HBQ := Lib.hid hbq
            have HA5 : Hid (wr.heap[w.heap.size]? = some (.cells #[.int .i64 bn, .int .i64 lo, .int .i64 hi] 25) ∧ wr.heap[w.heap.size + 1]? = some (.cells #[.int .i64 p, .int .i64 q] 31) ∧ wr.heap[w.heap.size + 1 + 1]? = some (.cells #[.int .i64 r, .int .i64 s] 31) ∧ wr.heap[w.heap.size + 1 + 1 + 1]? = some (.cells #[.int .i64 0, .int .i64 0] 27)) := Lib.hid ⟨heap_lft HA4.out.1 hbq, heap_lft HA4.out.2.1 hbq, heap_lft HA4.out.2.2.1 hbq, heap_lft HA4.out.2.2.2 hbq⟩
            clear hrow hbq
            by_cases hlk : k < n + 1
            · have hkn : (k : Int) ≤ n := by omega
              go_upto_region 13 with fail
              have hx := heap_top wr (.cells #[.int .i64 n, .int .i64 k] 27) rfl
              have hb6 : Below wr.heap.size wr (wr.alloc (.cells #[.int .i64 n, .int .i64 k] 27)) := (Below.refl _ _).alloc (Nat.le_refl _) _
              have HA6 : Hid ((wr.alloc (.cells #[.int .i64 n, .int .i64 k] 27)).heap[w.heap.size]? = some (.cells #[.int .i64 bn, .int .i64 lo, .int .i64 hi] 25) ∧ (wr.alloc (.cells #[.int .i64 n, .int .i64 k] 27)).heap[w.heap.size + 1]? = some (.cells #[.int .i64 p, .int .i64 q] 31) ∧ (wr.alloc (.cells #[.int .i64 n, .int .i64 k] 27)).heap[w.heap.size + 1 + 1]? = some (.cells #[.int .i64 r, .int .i64 s] 31) ∧ (wr.alloc (.cells #[.int .i64 n, .int .i64 k] 27)).heap[w.heap.size + 1 + 1 + 1]? = some (.cells #[.int .i64 0, .int .i64 0] 27)) := Lib.hid ⟨heap_lft HA5.out.1 hb6, heap_lft HA5.out.2.1 hb6, heap_lft HA5.out.2.2.1 hb6, heap_lft HA5.out.2.2.2 hb6⟩
              obtain ⟨Bx, hBx⟩ : ∃ B, wr.heap.size = B := ⟨_, rfl⟩
              obtain ⟨w6, hw6⟩ : ∃ v, wr.alloc (.cells #[.int .i64 n, .int .i64 k] 27) = v := ⟨_, rfl⟩
              rw [hBx] at hx
              rw [hw6] at hx HA6 hb6
              rw [hw6, hBx]
              have HX := Lib.hid hx
              replace HBQ := Lib.hid (below_thn HBQ.out hb6)
              clear hx hb6 hBx hw6
              have e0 := heap_cell HA6.out.1 (j := 0) rfl
              have e1 := heap_cell HA6.out.1 (j := 1) rfl
              have e2 := heap_cell HA6.out.1 (j := 2) rfl
              have g0 := heap_cell HA6.out.2.1 (j := 0) rfl
              have g1 := heap_cell HA6.out.2.1 (j := 1) rfl
              have j0 := heap_cell HA6.out.2.2.1 (j := 0) rfl
              have j1 := heap_cell HA6.out.2.2.1 (j := 1) rfl
              have z0 := heap_cell HA6.out.2.2.2 (j := 0) rfl
              have z1 := heap_cell HA6.out.2.2.2 (j := 1) rfl
              have x0 := heap_cell HX.out (j := 0) rfl
              have x1 := heap_cell HX.out (j := 1) rfl
              go_wp2_with fail
              refine (rFine_any bn lo hi n k good bad p q r s b1 b2 (by omega) (by omega) (by omega) (by omega) (by omega) (by omega) (by omega) (by omega) (by omega) (by omega) (by omega) (by omega) (by omega) (by omega) (by omega) (by omega) _).mono ?_
              rintro e w7 ⟨rfl, hb7⟩
              rw [HOK.out]
              have HA7 : Hid (w7.heap[w.heap.size]? = some (.cells #[.int .i64 bn, .int .i64 lo, .int .i64 hi] 25) ∧ w7.heap[w.heap.size + 1]? = some (.cells #[.int .i64 p, .int .i64 q] 31) ∧ w7.heap[w.heap.size + 1 + 1]? = some (.cells #[.int .i64 r, .int .i64 s] 31) ∧ w7.heap[w.heap.size + 1 + 1 + 1]? = some (.cells #[.int .i64 0, .int .i64 0] 27)) := Lib.hid ⟨heap_lft HA6.out.1 hb7, heap_lft HA6.out.2.1 hb7, heap_lft HA6.out.2.2.1 hb7, heap_lft HA6.out.2.2.2 hb7⟩
              replace HX := Lib.hid (heap_lft HX.out hb7)
              replace HBQ := Lib.hid (below_thn HBQ.out hb7)
              clear hb7 x0 x1
              clear e0 e1 e2 g0 g1 j0 j1 z0 z1
              have z0 := heap_cell HA7.out.2.2.2 (j := 0) rfl
              have z1 := heap_cell HA7.out.2.2.2 (j := 1) rfl
              have f0 := heap_frozen HA7.out.2.2.2 0
              have f1 := heap_frozen HA7.out.2.2.2 1
              have x0 := heap_cell HX.out (j := 0) rfl
              have x1 := heap_cell HX.out (j := 1) rfl
              cases hgood : ok n k with
              | true =>
                have HL := Lib.hid (HIS.out n k (by omega) (by omega) (by omega) (by omega) hgood HALL.out HROW.out)
                clear hgood
                go_wp2_with fail
                refine bodyPost_ret (v := .tuple #[.agg #[.int .i64 n, .int .i64 k], .int .i64 0]) (by simp [results, Try.results12, go_sem, z0, z1]) rfl ⟨?_, ?_⟩
                · rw [HE.out, Pure.pick_zero rfl, Pure.pick_zero rfl, Int.toNat_natCast, HL.out]
                · exact ((below_thn HB3.out (below_thn HBR.out HBQ.out)).setCell (p := ⟨w.heap.size + 1 + 1 + 1, 0, none⟩) (by simp; omega) _).setCell (p := ⟨w.heap.size + 1 + 1 + 1, 1, none⟩) (by simp; omega) _
              | false =>
                have HG := Lib.hid hgood
                clear hgood
                go_wp2_with fail
                go_roundw
                case rel => exact ⟨k + 1, by omega, by go_num, fun v a c => by
                  by_cases hv : v < (k : Int)
                  · exact HROW.out v a hv
                  · obtain rfl : v = k := by omega
                    exact HG.out, HBQ.out⟩
                case measure => (simp [intOf] <;> omega)
            · obtain rfl : k = n + 1 := by omega
              replace HBR := Lib.hid (below_thn HBR.out HBQ.out)
              have HN : Hid (∀ u v : Int, 0 ≤ u → 0 ≤ v → v ≤ u → u < ((n + 1 : Nat) : Int) → ok u v = false) := Lib.hid (fun u v a c d e => by
                by_cases hu : u < n
                · exact HALL.out u v a c d hu
                · obtain rfl : u = n := by omega
                  exact HROW.out v c (by omega))
              clear HBQ HROW
              go_wp2_with fail
              go_roundw
              case rel => exact ⟨n + 1, by omega, by go_num, HN.out, HBR.out⟩
              case measure => (simp [intOf] <;> omega)
        · obtain rfl : n = bn + 1 := by omega
          have h := HALL.out bn good (by omega) (by omega) (by omega) (by omega)
          rw [HLAST.out] at h
          cases h
    · have hz' : (k3 != 0) = true := by simpa using hz
      have HZ := Lib.hid hz
      clear hz
      have f0 := heap_frozen HA3.out.2.2.2 0
      have f1 := heap_frozen HA3.out.2.2.2 1
      go_wp2_with fail
      refine bodyPost_ret (v := .tuple #[.agg #[.int .i64 0, .int .i64 0], .int .i64 k3]) (by simp [results, Try.results12, go_sem, z0, z1]) rfl ⟨?_, ?_⟩
      · rw [HE.out]
        simp only [↓reduceIte]
        rw [Pure.pick_err HZ.out, Pure.pick_err HZ.out]
      · exact (HB3.out.setCell (p := ⟨w.heap.size + 1 + 1 + 1, 0, none⟩) (by simp; omega) _).setCell (p := ⟨w.heap.size + 1 + 1 + 1, 1, none⟩) (by simp; omega) _

end Go.Proofs.Ytmhhfopiaimhbaa
