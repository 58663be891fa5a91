/-
  The contract of the reference's Terms.
-/
import Derived.Test.YteckpbghmhelpaaTerms
import Derived.Deep.QuietTactic
namespace Go.Proofs.Yteckpbghmhelpaa
open Go.RowKit

set_option maxHeartbeats 4000000 in
set_option maxRecDepth 100000 in
/-- The reference's Terms. -/
theorem rTerms_any (a : Option Addr) (len cap : Nat) (F P : Nat → Int) (hl : len ≤ 9223372036854775807) (w : World) (ht : TermsAt w a len F P) :
    Calls Try.prog 108 #[.slice a len cap] w fun e w' => e = .returned (.bool (Pure.okTerms len F P)) ∧ Below w.heap.size w w' := by
  have HT := Lib.hid ht
  clear ht
  by_cases h5 : len ≤ 5
  · have h5' : ¬ ((len : Int) > 5) := by omega
    go_enter Try.func108, Try.ntmps108
    go_wp2_with fail
    go_loopw [3] (fun i wr => ∃ k : Nat, k ≤ len ∧ i = .int .i64 k ∧ (∀ j, j < k → Pure.fits F P j) ∧ Below w.heap.size w wr) (fun i _ => len - (intOf i).toNat)
    case atStart =>
      refine ⟨0, Nat.zero_le _, rfl, fun j hj => absurd hj (Nat.not_lt_zero j), Below.refl _ _⟩
    case round =>
      obtain ⟨k, hk, rfl, hF, hB⟩ := hrel
      have HFS := Lib.hid hF
      clear hF
      by_cases hk1 : k < len
      · obtain ⟨b, off, rfl, g0, g1⟩ := HT.out k hk1
        have e0 := below_cell hB g0
        have e1 := below_cell hB g1
        have hk2 : (k : Int) < len := by omega
        obtain ⟨r1, h1⟩ : ∃ r, (decide (1 ≤ F k) && decide (F k ≤ 100)) = r := ⟨_, rfl⟩
        obtain ⟨r2, h2⟩ : ∃ r, (decide (0 ≤ P k) && decide (P k ≤ 1000000)) = r := ⟨_, rfl⟩
        have R1 := Lib.hid h1
        have R2 := Lib.hid h2
        have HB := Lib.hid hB
        clear h1 h2 hB g0 g1
        have HSt : Hid (Below wr.heap.size wr wr.drew) := Lib.hid (Below.refl _ _).drew
        have hne : Nonempty (Among (Below wr.heap.size wr)) := ⟨⟨_, HSt.out⟩⟩
        have HC1 : Hid (∀ x : Among (Below wr.heap.size wr), Calls Try.prog 67 #[.int .i64 (F k), .int .i64 1, .int .i64 100] x.val fun e w' => e = .returned (.bool r1) ∧ ∃ y : Among (Below wr.heap.size wr), w' = y.val) :=
          Lib.hid (fun x => calls_class ((rWithin_any (F k) 1 100 r1 R1.out x.val).mono fun e w' h => ⟨h.1, h.2 ▸ x.ok⟩))
        have HC2 : Hid (∀ x : Among (Below wr.heap.size wr), Calls Try.prog 67 #[.int .i64 (P k), .int .i64 0, .int .i64 1000000] x.val fun e w' => e = .returned (.bool r2) ∧ ∃ y : Among (Below wr.heap.size wr), w' = y.val) :=
          Lib.hid (fun x => calls_class ((rWithin_any (P k) 0 1000000 r2 R2.out x.val).mono fun e w' h => ⟨h.1, h.2 ▸ x.ok⟩))
        cases k with
        | zero =>
          have HFI : Hid (Pure.fits F P 0 ↔ r1 = true ∧ r2 = true) := Lib.hid (by unfold Pure.fits; rw [← R1.out, ← R2.out]; simp; omega)
          simp only [Nat.zero_mul, Nat.add_zero] at e0 e1
          have x0 := among_below e0
          have x1 := among_below e1
          clear e0 e1
          cases r1
          ·
            go_wp2_with fail
            refine wp_region_class (Below wr.heap.size wr) (by kernel_rfl) (by kernel_rfl) HSt.out ?_
            repeat (go_big_quiet_step ((go_at_call 67; (first | (with_reducible exact HC1.out _) | (with_reducible exact HC2.out _)))))
            refine wpQuiet_nil ?_
            intro w3 hx
            have hB3 := among_out hx
            clear hx hne x0 x1
            have HB3 : Hid (Below w.heap.size w w3) := Lib.hid (HB.out.trans (hB3.mono HB.out.size))
            clear hB3
            go_wp2_with fail
            go_ret
            exact ⟨ret_bool (by rw [Pure.okTerms_no hk1 (by rw [HFI.out]; simp)]), HB3.out⟩
          · cases r2
            ·
              go_wp2_with fail
              refine wp_region_class (Below wr.heap.size wr) (by kernel_rfl) (by kernel_rfl) HSt.out ?_
              repeat (go_big_quiet_step ((go_at_call 67; (first | (with_reducible exact HC1.out _) | (with_reducible exact HC2.out _)))))
              refine wpQuiet_nil ?_
              intro w3 hx
              have hB3 := among_out hx
              clear hx hne x0 x1
              have HB3 : Hid (Below w.heap.size w w3) := Lib.hid (HB.out.trans (hB3.mono HB.out.size))
              clear hB3
              go_wp2_with fail
              go_ret
              exact ⟨ret_bool (by rw [Pure.okTerms_no hk1 (by rw [HFI.out]; simp)]), HB3.out⟩
            ·
              go_wp2_with fail
              refine wp_region_class (Below wr.heap.size wr) (by kernel_rfl) (by kernel_rfl) HSt.out ?_
              repeat (go_big_quiet_step ((go_at_call 67; (first | (with_reducible exact HC1.out _) | (with_reducible exact HC2.out _)))))
              refine wpQuiet_nil ?_
              intro w3 hx
              have hB3 := among_out hx
              clear hx hne x0 x1
              have HB3 : Hid (Below w.heap.size w w3) := Lib.hid (HB.out.trans (hB3.mono HB.out.size))
              clear hB3
              go_wp2_with fail
              go_roundw
              case rel =>
                refine ⟨1, by omega, by go_num, ?_, HB3.out⟩
                intro j hj
                by_cases hjk : j < 0
                · exact HFS.out j hjk
                · obtain rfl : j = 0 := by omega
                  exact HFI.out.2 (by simp)
              case measure => simp [intOf]; omega
        | succ m =>
          have g := HT.out m (by omega)
          obtain ⟨b', off', hbb, g0, g1⟩ := g
          cases hbb
          have x2 := among_below (below_cell HB.out g0)
          have x3 := among_below (below_cell HB.out g1)
          have x0 := among_below e0
          have x1 := among_below e1
          clear e0 e1 g0 g1
          have hpos : (0 : Int) < ((m : Int) + 1) := by omega
          have hm1 : ((m : Int)) < len := by omega
          obtain ⟨r3, h3⟩ : ∃ r, decide (F (m + 1) ≤ F m) = r := ⟨_, rfl⟩
          obtain ⟨r4, h4⟩ : ∃ r, decide (P (m + 1) < P m) = r := ⟨_, rfl⟩
          have HFI : Hid (Pure.fits F P (m + 1) ↔ r1 = true ∧ r2 = true ∧ r3 = false ∧ r4 = false) := Lib.hid (by unfold Pure.fits; rw [← R1.out, ← R2.out, ← h3, ← h4]; simp; omega)
          cases r1
          ·
            go_wp2_with fail
            refine wp_region_class (Below wr.heap.size wr) (by kernel_rfl) (by kernel_rfl) HSt.out ?_
            repeat (go_big_quiet_step ((go_at_call 67; (first | (with_reducible exact HC1.out _) | (with_reducible exact HC2.out _)))))
            refine wpQuiet_nil ?_
            intro w3 hx
            have hB3 := among_out hx
            clear hx hne x0 x1 x2 x3
            have HB3 : Hid (Below w.heap.size w w3) := Lib.hid (HB.out.trans (hB3.mono HB.out.size))
            clear hB3
            go_wp2_with fail
            go_ret
            exact ⟨ret_bool (by rw [Pure.okTerms_no hk1 (by rw [HFI.out]; simp)]), HB3.out⟩
          · cases r2
            ·
              go_wp2_with fail
              refine wp_region_class (Below wr.heap.size wr) (by kernel_rfl) (by kernel_rfl) HSt.out ?_
              repeat (go_big_quiet_step ((go_at_call 67; (first | (with_reducible exact HC1.out _) | (with_reducible exact HC2.out _)))))
              refine wpQuiet_nil ?_
              intro w3 hx
              have hB3 := among_out hx
              clear hx hne x0 x1 x2 x3
              have HB3 : Hid (Below w.heap.size w w3) := Lib.hid (HB.out.trans (hB3.mono HB.out.size))
              clear hB3
              go_wp2_with fail
              go_ret
              exact ⟨ret_bool (by rw [Pure.okTerms_no hk1 (by rw [HFI.out]; simp)]), HB3.out⟩
            · cases r3
              · cases r4
                ·
                  have y3 : F m < F (m + 1) := by simpa using h3
                  have y4 : P m ≤ P (m + 1) := by simpa using h4
                  go_wp2_with fail
                  refine wp_region_class (Below wr.heap.size wr) (by kernel_rfl) (by kernel_rfl) HSt.out ?_
                  repeat (go_big_quiet_step ((go_at_call 67; (first | (with_reducible exact HC1.out _) | (with_reducible exact HC2.out _)))))
                  refine wpQuiet_nil ?_
                  intro w3 hx
                  have hB3 := among_out hx
                  clear hx hne x0 x1 x2 x3
                  have HB3 : Hid (Below w.heap.size w w3) := Lib.hid (HB.out.trans (hB3.mono HB.out.size))
                  clear hB3
                  go_wp2_with fail
                  go_roundw
                  case rel =>
                    refine ⟨m + 2, by omega, by go_num, ?_, HB3.out⟩
                    intro j hj
                    by_cases hjk : j < m + 1
                    · exact HFS.out j hjk
                    · obtain rfl : j = m + 1 := by omega
                      exact HFI.out.2 (by simp)
                  case measure => simp [intOf]; omega
                ·
                  have y3 : F m < F (m + 1) := by simpa using h3
                  have y4 : P (m + 1) < P m := by simpa using h4
                  go_wp2_with fail
                  refine wp_region_class (Below wr.heap.size wr) (by kernel_rfl) (by kernel_rfl) HSt.out ?_
                  repeat (go_big_quiet_step ((go_at_call 67; (first | (with_reducible exact HC1.out _) | (with_reducible exact HC2.out _)))))
                  refine wpQuiet_nil ?_
                  intro w3 hx
                  have hB3 := among_out hx
                  clear hx hne x0 x1 x2 x3
                  have HB3 : Hid (Below w.heap.size w w3) := Lib.hid (HB.out.trans (hB3.mono HB.out.size))
                  clear hB3
                  go_wp2_with fail
                  go_ret
                  exact ⟨ret_bool (by rw [Pure.okTerms_no hk1 (by rw [HFI.out]; simp)]), HB3.out⟩
              ·
                have y3 : F (m + 1) ≤ F m := by simpa using h3
                go_wp2_with fail
                refine wp_region_class (Below wr.heap.size wr) (by kernel_rfl) (by kernel_rfl) HSt.out ?_
                repeat (go_big_quiet_step ((go_at_call 67; (first | (with_reducible exact HC1.out _) | (with_reducible exact HC2.out _)))))
                refine wpQuiet_nil ?_
                intro w3 hx
                have hB3 := among_out hx
                clear hx hne x0 x1 x2 x3
                have HB3 : Hid (Below w.heap.size w w3) := Lib.hid (HB.out.trans (hB3.mono HB.out.size))
                clear hB3
                go_wp2_with fail
                go_ret
                exact ⟨ret_bool (by rw [Pure.okTerms_no hk1 (by rw [HFI.out]; simp)]), HB3.out⟩
      · obtain rfl : k = len := by omega
        go_wp2_with fail
        go_ret
        exact ⟨ret_bool (by rw [Pure.okTerms_true h5 HFS.out]), hB⟩
  · have h5' : ((len : Int) > 5) := by omega
    go_enter Try.func108, Try.ntmps108
    go_wp2_with fail
    go_ret
    exact ⟨ret_bool (by rw [Pure.okTerms_long h5]), Below.refl _ _⟩

end Go.Proofs.Yteckpbghmhelpaa
