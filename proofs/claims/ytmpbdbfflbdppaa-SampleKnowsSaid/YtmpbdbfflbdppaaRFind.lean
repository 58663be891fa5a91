/-
  The contracts of the specification's Find and SameInts.
-/
import Derived.Test.YtmpbdbfflbdppaaRBound
namespace Go.Proofs.Ytmpbdbfflbdppaa
open Go.RowKit Go.Shelf

namespace Pure
theorem findE_code {b lo hi d p q c : Int} (h : first3 (err (okCargo b lo hi) 10) (err (okIn lo hi d) 2) (err (okParts 1 (fun _ => p) (fun _ => q)) 12) = c) (hc : c ≠ 0) : findV b lo hi d p q = 0 ∧ findE b lo hi d p q = c := by
  unfold findV findE
  simp only [h]
  rw [if_neg hc, if_neg hc]
  exact ⟨rfl, rfl⟩
theorem findE_ok {b lo hi d p q : Int} (h : first3 (err (okCargo b lo hi) 10) (err (okIn lo hi d) 2) (err (okParts 1 (fun _ => p) (fun _ => q)) 12) = 0) : findV b lo hi d p q = (find b.toNat d p q).getD 0 ∧ findE b lo hi d p q = err (find b.toNat d p q).isSome 6 := by
  unfold findV findE
  simp only [h]
  exact ⟨rfl, rfl⟩
end Pure

set_option maxHeartbeats 4000000 in
set_option maxRecDepth 100000 in
theorem rFind_any (b lo hi d p q : Int) (w : World) :
    Calls Try.prog 25 #[cargoV b lo hi, .int .i64 d, .agg #[.int .i64 p, .int .i64 q]] w fun e w' => e = .returned (.tuple #[.int .i64 (Pure.findV b lo hi d p q), .int .i64 (Pure.findE b lo hi d p q)]) ∧ Below w.heap.size w w' := by
  obtain ⟨r1, h1⟩ : ∃ r, Pure.okCargo b lo hi = r := ⟨_, rfl⟩
  obtain ⟨r2, h2⟩ : ∃ r, Pure.okIn lo hi d = r := ⟨_, rfl⟩
  obtain ⟨r3, h3⟩ : ∃ r, Pure.okParts 1 (fun _ => p) (fun _ => q) = r := ⟨_, rfl⟩
  have H1 := Lib.hid h1
  have H2 := Lib.hid h2
  have H3 := Lib.hid h3
  clear h1 h2 h3
  go_enter Try.func25, Try.ntmps25
  go_wp2_with fail
  obtain ⟨W1, hW1⟩ : ∃ W1, (w.alloc (.cells #[.int .i64 b, .int .i64 lo, .int .i64 hi] 25)).alloc (.cells #[.int .i64 p, .int .i64 q] 29) = W1 := ⟨_, rfl⟩
  have hB1 : Below w.heap.size w W1 := by rw [← hW1]; exact ((Below.refl _ _).alloc (Nat.le_refl _) _).alloc (by simp) _
  have hc1 : W1.heap[w.heap.size]? = some (.cells #[.int .i64 b, .int .i64 lo, .int .i64 hi] 25) := by rw [← hW1]; exact heap_up (heap_top _ _ rfl) _
  have hp1 : W1.heap[w.heap.size + 1]? = some (.cells #[.int .i64 p, .int .i64 q] 29) := by rw [← hW1]; exact heap_top _ _ (by simp)
  rw [hW1]
  have HC1 := Lib.hid hc1
  have HP1 := Lib.hid hp1
  have HB1 := Lib.hid hB1
  clear hW1 hB1 hc1 hp1
  have hcb : ∀ W : World, Below W1.heap.size W1 W → W.cell? ⟨w.heap.size, 0, none⟩ = some (.int .i64 b) ∧ W.cell? ⟨w.heap.size, 1, none⟩ = some (.int .i64 lo) ∧ W.cell? ⟨w.heap.size, 2, none⟩ = some (.int .i64 hi) ∧ W.cell? ⟨w.heap.size + 1, 0, none⟩ = some (.int .i64 p) ∧ W.cell? ⟨w.heap.size + 1, 1, none⟩ = some (.int .i64 q) := fun W h =>
    ⟨below_cell h (heap_cell HC1.out (j := 0) rfl), below_cell h (heap_cell HC1.out (j := 1) rfl), below_cell h (heap_cell HC1.out (j := 2) rfl), below_cell h (heap_cell HP1.out (j := 0) rfl), below_cell h (heap_cell HP1.out (j := 1) rfl)⟩
  have HCB := Lib.hid hcb
  have HBB : Hid (∀ W : World, Below W1.heap.size W1 W → Below w.heap.size w W) := Lib.hid (fun W h => HB1.out.trans (h.mono HB1.out.size))
  clear hcb
  refine (rCargo_any b lo hi _).mono ?_
  rintro e W2 ⟨rfl, hw2⟩
  have hb2 : Below W1.heap.size W1 W2 := by rw [hw2]; exact (Below.refl _ _).alloc (Nat.le_refl _) _
  rw [H1.out]
  have HB2 := Lib.hid hb2
  clear hw2 hb2
  cases r1
  · have HE := Lib.hid (Pure.findE_code (b := b) (lo := lo) (hi := hi) (d := d) (p := p) (q := q) (c := 10) (by rw [H1.out]; rfl) (by decide))
    go_wp2_with fail
    go_ret2
    exact ⟨by rw [HE.out.1, HE.out.2]; rfl, HBB.out _ HB2.out⟩
  · obtain ⟨c0, c1, c2, p0, p1⟩ := HCB.out _ HB2.out
    go_wp2_with fail
    refine (rMay_any b lo hi d _).mono ?_
    rintro e W3 ⟨rfl, hw3⟩
    have hb3 : Below W1.heap.size W1 W3 := by rw [hw3]; exact HB2.out.alloc HB2.out.size _
    rw [H2.out]
    have HB3 := Lib.hid hb3
    clear hw3 hb3 c0 c1 c2 p0 p1
    cases r2
    · have HE := Lib.hid (Pure.findE_code (b := b) (lo := lo) (hi := hi) (d := d) (p := p) (q := q) (c := 2) (by rw [H1.out, H2.out]; rfl) (by decide))
      go_wp2_with fail
      go_ret2
      exact ⟨by rw [HE.out.1, HE.out.2]; rfl, HBB.out _ HB3.out⟩
    · obtain ⟨c0, c1, c2, p0, p1⟩ := HCB.out _ HB3.out
      go_wp2_with fail
      refine (rGiven_any p q _).mono ?_
      rintro e W4 ⟨rfl, hb4⟩
      have hb5 : Below W1.heap.size W1 W4 := HB3.out.trans (hb4.mono HB3.out.size)
      rw [H3.out]
      have HB4 := Lib.hid hb5
      clear hb4 hb5 c0 c1 c2 p0 p1
      cases r3
      · have HE := Lib.hid (Pure.findE_code (b := b) (lo := lo) (hi := hi) (d := d) (p := p) (q := q) (c := 12) (by rw [H1.out, H2.out, H3.out]; rfl) (by decide))
        go_wp2_with fail
        go_ret2
        exact ⟨by rw [HE.out.1, HE.out.2]; rfl, HBB.out _ HB4.out⟩
      · have HE := Lib.hid (Pure.findE_ok (b := b) (lo := lo) (hi := hi) (d := d) (p := p) (q := q) (by rw [H1.out, H2.out, H3.out]; rfl))
        have q1 := H1.out
        have q2 := H2.out
        unfold Pure.okCargo at q1
        unfold Pure.okIn at q2
        simp only [decide_eq_true_eq] at q1 q2
        obtain ⟨b1, b2, b3, b4, b5⟩ := q1
        obtain ⟨d1, d2⟩ := q2
        obtain ⟨s1, s2, s3, s4⟩ := Pure.okParts_one H3.out
        obtain ⟨bn, rfl⟩ : ∃ n : Nat, b = n := ⟨b.toNat, by omega⟩
        have HF : Hid (Pure.find ((bn : Int)).toNat d p q = (Pure.ints (bn + 1)).find? (Pure.okFind bn d p q)) := Lib.hid (by rw [Int.toNat_natCast]; rfl)
        have HOK : Hid (∀ x : Int, 0 ≤ x → x ≤ bn → Pure.okFind bn d p q x = decide (Pure.sets bn x * p ≤ (Pure.sets bn x - Pure.sets (bn - d) x) * q)) := Lib.hid (fun x hx0 hx1 => by
          unfold Pure.okFind
          rw [Pure.few_zero (by omega) b2 (by omega) (by omega) hx0 hx1, Int.mul_comm p])
        obtain ⟨ok, hok⟩ : ∃ ok, Pure.okFind bn d p q = ok := ⟨_, rfl⟩
        rw [hok] at HF HOK
        clear hok
        go_wp2_with fail
        go_loopw [8] (fun i wr => ∃ k : Nat, k ≤ bn + 1 ∧ i = .int .i64 k ∧ (Pure.ints k).any ok = false ∧ Below W1.heap.size W1 wr) (fun i _ => bn + 1 - (intOf i).toNat)
        case atStart => exact ⟨0, Nat.zero_le _, rfl, rfl, HB4.out⟩
        case round =>
          obtain ⟨k, hk, rfl, hany, hbw⟩ := hrel
          obtain ⟨c0, c1, c2, p0, p1⟩ := HCB.out _ hbw
          have HANY := Lib.hid hany
          have HBW := Lib.hid hbw
          clear hany hbw
          by_cases hlt : k < bn + 1
          · have hkb : (k : Int) ≤ bn := by omega
            have HOX := Lib.hid (HOK.out k (by omega) hkb)
            have set0 : 0 ≤ Pure.sets bn k := Pure.sets_nonneg _ _
            have set1 : Pure.sets bn k ≤ 68719476736 := Pure.sets_le (by omega)
            have set2 : 0 ≤ Pure.sets (bn - d) k := Pure.sets_nonneg _ _
            have set3 : Pure.sets (bn - d) k ≤ Pure.sets bn k := Pure.sets_mono (by omega) (by omega)
            have hc1 : ∀ W, Calls Try.prog 40 #[.int .i64 bn, .int .i64 k] W fun e w' => e = .returned (.int .i64 (Pure.sets bn k)) ∧ W = w' := fun W => choose_any bn k (by omega) W
            have hc2 : ∀ W, Calls Try.prog 40 #[.int .i64 (bn - d), .int .i64 k] W fun e w' => e = .returned (.int .i64 (Pure.sets (bn - d) k)) ∧ w' = W := fun W => choose_quiet (bn - d) k (by omega) W
            obtain ⟨sa, hsa⟩ : ∃ y, Pure.sets bn k = y := ⟨_, rfl⟩
            obtain ⟨sb, hsb⟩ : ∃ y, Pure.sets (bn - d) k = y := ⟨_, rfl⟩
            rw [hsa] at set0 set1 set3 hc1 HOX
            rw [hsb] at set2 set3 hc2 HOX
            have m1 : 0 ≤ (sa - sb) * q := Int.mul_nonneg (by omega) (by omega)
            have m2 : (sa - sb) * q ≤ 68719476736 * 1000 := Int.mul_le_mul (by omega) s4 (by omega) (by decide)
            have m3 : 0 ≤ sa * p := Int.mul_nonneg (by omega) s1
            have m4 : sa * p ≤ 68719476736 * 1000 := Int.mul_le_mul set1 (by omega) s1 (by decide)
            have HC3 := Lib.hid hc1
            have HC4 := Lib.hid hc2
            clear hc1 hc2 hsa hsb
            by_cases hcmp : sa * p ≤ (sa - sb) * q
            · have HR := Lib.hid (Pure.hit_of (p := ok) (xs := Pure.ints (bn + 1)) (ini := Pure.ints k) (x := k) (by rw [← Pure.ints_succ]; exact Pure.ints_prefix (by omega)) HANY.out (by rw [HOX.out]; exact decide_eq_true hcmp))
              go_wp2_with fail
              refine (HC3.out _).mono ?_
              rintro e w' ⟨rfl, rfl⟩
              go_wp2_with fail
              go_quiet ((go_at_call 40; exact Calls.quiet_of_same (HC4.out _)))
              go_wp2_with fail
              go_ret2
              exact ⟨by rw [HE.out.1, HE.out.2, HF.out, HR.out.1]; rfl, HBB.out _ (below_drewN HBW.out _)⟩
            · have HR : Hid ((Pure.ints (k + 1)).any ok = false) := Lib.hid (by rw [Pure.ints_succ, Pure.any_snoc, HANY.out, HOX.out, decide_eq_false hcmp]; rfl)
              go_wp2_with fail
              refine (HC3.out _).mono ?_
              rintro e w' ⟨rfl, rfl⟩
              go_wp2_with fail
              go_quiet ((go_at_call 40; exact Calls.quiet_of_same (HC4.out _)))
              go_wp2_with fail
              go_roundw
              case rel => exact ⟨k + 1, by omega, by go_num, HR.out, below_drewN HBW.out _⟩
              case measure => simp [intOf]; omega
          · obtain rfl : k = bn + 1 := by omega
            have HR := Lib.hid (Pure.none_of_any HANY.out)
            go_wp2_with fail
            go_ret2
            exact ⟨by rw [HE.out.1, HE.out.2, HF.out, HR.out]; rfl, HBB.out _ HBW.out⟩

set_option maxHeartbeats 2000000 in
set_option maxRecDepth 100000 in
/-- **SameInts**, of two slices that read alike. -/
theorem sameInts_any (v u : Value) (L : List Int) (hL : L.length ≤ 1000) (w : World) (hv : IntsAt w v L) (hu : IntsAt w u L) :
    Calls Try.prog 21 #[v, u] w fun e w' => e = .returned (.bool true) ∧ Below w.heap.size w w' := by
  obtain ⟨a, cap, rfl, ha⟩ := hv
  obtain ⟨a', cap', rfl, ha'⟩ := hu
  have HA := Lib.hid ha
  have HA' := Lib.hid ha'
  clear ha ha'
  obtain ⟨n, hn⟩ : ∃ n, L.length = n := ⟨_, rfl⟩
  rw [hn] at hL ⊢
  have HN := Lib.hid hn
  clear hn
  go_enter Try.func21, Try.ntmps21
  go_wp2_with fail
  go_loopw [5] (fun i wr => ∃ k : Nat, k ≤ n ∧ i = .int .i64 k ∧ Below w.heap.size w wr) (fun i _ => n - (intOf i).toNat)
  case atStart => exact ⟨0, Nat.zero_le _, rfl, Below.refl _ _⟩
  case round =>
    obtain ⟨k, hk, rfl, hbw⟩ := hrel
    by_cases hlt : k < n
    · obtain ⟨x, hx⟩ : ∃ x, L[k]? = some x := ⟨L[k]'(by have := HN.out; omega), List.getElem?_eq_getElem (by have := HN.out; omega)⟩
      obtain ⟨g, rfl, c0⟩ := HA.out k x hx
      obtain ⟨g', rfl, c1⟩ := HA'.out k x hx
      replace c0 := below_cell hbw c0
      replace c1 := below_cell hbw c1
      have HBW := Lib.hid hbw
      clear hbw hx
      go_wp2_with fail
      go_quiet (fail)
      go_wp2_with fail
      go_roundw
      case rel => exact ⟨k + 1, by omega, by go_num, below_drewN HBW.out _⟩
      case measure => simp [intOf]; omega
    · obtain rfl : k = n := by omega
      go_wp2_with fail
      go_ret
      exact ⟨rfl, hbw⟩

end Go.Proofs.Ytmpbdbfflbdppaa
