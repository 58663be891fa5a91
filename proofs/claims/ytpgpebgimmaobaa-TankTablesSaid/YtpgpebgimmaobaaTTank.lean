/-
  The contracts of the specification's own Tank and Check.
-/
import Derived.Test.YtpgpebgimmaobaaTOrder
import Derived.Deep.CutRange
namespace Go.Proofs.Ytpgpebgimmaobaa
open Go.RowKit

theorem tank_no {len : Nat} {F : Nat → Int} {lk ft : Int} {ok : Bool} (h : Pure.okTank len F lk ft = ok) (g : ¬ Pure.OkTank len F lk ft) : ok = false := by rw [← h, Pure.okTank_no g]
/-- The first numbers of a table are in order, and not above 600. -/
def UpTo (F : Nat → Int) (k : Nat) : Prop := F 0 = 0 ∧ Pure.Ordered k F ∧ ∀ i, i < k → 0 ≤ F i ∧ F i ≤ 600
theorem upTo_one {F : Nat → Int} (h : F 0 = 0) : UpTo F 1 := ⟨h, fun i hi h2 => absurd hi (by omega), fun i hi => by
  obtain rfl : i = 0 := by omega
  rw [h]
  omega⟩
set_option maxHeartbeats 4000000 in
set_option maxRecDepth 100000 in
/-- **Tank**. -/
theorem rTank_any (a : Option Addr) (len cap : Nat) (F : Nat → Int) (lk ft : Int) (hl : len ≤ 40) (w : World) (h : NumsAt w a len F) :
    Calls Try.prog 19 #[tankV a len cap lk ft] w fun e w' => e = .returned (.bool (Pure.okTank len F lk ft)) ∧ Below w.heap.size w w' := by
  have HN := Lib.hid h
  clear h
  obtain ⟨ok, hok⟩ : ∃ ok, Pure.okTank len F lk ft = ok := ⟨_, rfl⟩
  rw [hok]
  have HOK := Lib.hid hok
  clear hok
  go_enter Try.func19, Try.ntmps19
  go_wp2_with fail
  obtain ⟨W1, hW1⟩ : ∃ W, w.alloc (tankB a len cap lk ft) = W := ⟨_, rfl⟩
  have HB1 : Hid (Below w.heap.size w W1) := Lib.hid (by rw [← hW1]; exact below_new _ _)
  have HBX : Hid (W1.heap[w.heap.size]? = some (tankB a len cap lk ft)) := Lib.hid (by rw [← hW1]; exact heap_top _ _ rfl)
  rw [hW1]
  clear hW1
  have HN1 : Hid (NumsAt W1 a len F) := Lib.hid (HN.out.below HB1.out)
  have x0 := among_below (heap_cell HBX.out (j := 0) rfl)
  have x1 := among_below (heap_cell HBX.out (j := 1) rfl)
  have x2 := among_below (heap_cell HBX.out (j := 2) rfl)
  have HSt : Hid (Below W1.heap.size W1 W1.drew) := Lib.hid (Below.refl _ _).drew
  have hne : Nonempty (Among (Below W1.heap.size W1)) := ⟨⟨_, HSt.out⟩⟩
  obtain ⟨r1, hr1⟩ : ∃ r, decide (2 ≤ (len : Int) ∧ (len : Int) ≤ 21) = r := ⟨_, rfl⟩
  obtain ⟨r2, hr2⟩ : ∃ r, decide (0 ≤ lk ∧ lk ≤ 50) = r := ⟨_, rfl⟩
  obtain ⟨hh, hhh⟩ : ∃ hh, 8 * ((len : Int) - 1) = hh := ⟨_, rfl⟩
  obtain ⟨r3, hr3⟩ : ∃ r, decide (0 ≤ ft ∧ ft ≤ hh) = r := ⟨_, rfl⟩
  have HR1 := Lib.hid hr1
  have HR2 := Lib.hid hr2
  have HR3 := Lib.hid hr3
  have HHH := Lib.hid hhh
  clear hr1 hr2 hr3 hhh
  have HC1 : Hid (∀ xq : Among (Below W1.heap.size W1), Calls Try.prog 20 #[.int .i64 len, .int .i64 2, .int .i64 21] xq.val fun e w' => e = .returned (.bool r1) ∧ ∃ y : Among (Below W1.heap.size W1), w' = y.val) := Lib.hid (fun xq => calls_class ((rWithin_any len 2 21 xq.val).mono fun e w' h => ⟨h.1.trans (by rw [HR1.out]), h.2 ▸ xq.ok⟩))
  have HC2 : Hid (∀ xq : Among (Below W1.heap.size W1), Calls Try.prog 20 #[.int .i64 lk, .int .i64 0, .int .i64 50] xq.val fun e w' => e = .returned (.bool r2) ∧ ∃ y : Among (Below W1.heap.size W1), w' = y.val) := Lib.hid (fun xq => calls_class ((rWithin_any lk 0 50 xq.val).mono fun e w' h => ⟨h.1.trans (by rw [HR2.out]), h.2 ▸ xq.ok⟩))
  have HC3 : Hid (∀ xq : Among (Below W1.heap.size W1), Calls Try.prog 20 #[.int .i64 ft, .int .i64 0, .int .i64 hh] xq.val fun e w' => e = .returned (.bool r3) ∧ ∃ y : Among (Below W1.heap.size W1), w' = y.val) := Lib.hid (fun xq => calls_class ((rWithin_any ft 0 hh xq.val).mono fun e w' h => ⟨h.1.trans (by rw [HR3.out]), h.2 ▸ xq.ok⟩))
  have HC4 : Hid (∀ xq : Among (Below W1.heap.size W1), Calls Try.prog 21 #[tankV a len cap lk ft] xq.val fun e w' => e = .returned (.int .i64 hh) ∧ ∃ y : Among (Below W1.heap.size W1), w' = y.val) := Lib.hid (fun xq => calls_class ((rHeight_any a len cap lk ft hl xq.val).mono fun e w' h => ⟨h.1.trans (by rw [HHH.out]), by rw [h.2]; exact xq.ok.alloc xq.ok.size _⟩))
  cases r1 with
  | false =>
    clear HC2 HC3 HC4 x1 x2
    refine wp_region_class (Below W1.heap.size W1) (by kernel_rfl) (by kernel_rfl) HSt.out ?_
    repeat (go_big_quiet_step ((first | (go_at_call 20; first | with_reducible exact HC1.out _ | with_reducible exact HC2.out _ | with_reducible exact HC3.out _) | (go_at_call 21; with_reducible exact HC4.out _))))
    refine wpQuiet_nil ?_
    intro w3 hx
    have HB3 : Hid (Below w.heap.size w w3) := Lib.hid (below_thn HB1.out (among_out hx))
    go_wp2_with fail
    go_ret
    exact ⟨ret_bool (tank_no HOK.out (fun g => absurd HR1.out (by have := g.1; simp; omega))).symm, HB3.out⟩
  | true =>
    have hlen : 2 ≤ len ∧ len ≤ 21 := by have h := HR1.out; simp at h; omega
    obtain ⟨b, off, rfl⟩ := HN.out.some (by omega)
    have hl0 : (0 : Int) < len := by omega
    have y0 := among_below (show W1.cell? ⟨b, off, none⟩ = some (.int .i64 (F 0)) from HN1.out.at (show 0 < len by omega))
    by_cases e0 : F 0 = 0
    · have e1 : (F 0 != 0) = false := by simpa using e0
      have E0 := Lib.hid e0
      clear e0
      cases r2 with
      | false =>
        refine wp_region_class (Below W1.heap.size W1) (by kernel_rfl) (by kernel_rfl) HSt.out ?_
        repeat (go_big_quiet_step ((first | (go_at_call 20; first | with_reducible exact HC1.out _ | with_reducible exact HC2.out _ | with_reducible exact HC3.out _) | (go_at_call 21; with_reducible exact HC4.out _))))
        refine wpQuiet_nil ?_
        intro w3 hx
        have HB3 : Hid (Below w.heap.size w w3) := Lib.hid (below_thn HB1.out (among_out hx))
        go_wp2_with fail
        go_ret
        exact ⟨ret_bool (tank_no HOK.out (fun g => absurd HR2.out (by have := g.2.2.1; simp; omega))).symm, HB3.out⟩
      | true =>
        cases r3 with
        | false =>
          refine wp_region_class (Below W1.heap.size W1) (by kernel_rfl) (by kernel_rfl) HSt.out ?_
          repeat (go_big_quiet_step ((first | (go_at_call 20; first | with_reducible exact HC1.out _ | with_reducible exact HC2.out _ | with_reducible exact HC3.out _) | (go_at_call 21; with_reducible exact HC4.out _))))
          refine wpQuiet_nil ?_
          intro w3 hx
          have HB3 : Hid (Below w.heap.size w w3) := Lib.hid (below_thn HB1.out (among_out hx))
          go_wp2_with fail
          go_ret
          exact ⟨ret_bool (tank_no HOK.out (fun g => absurd HR3.out (by have := g.2.2.2; have := HHH.out; simp; omega))).symm, HB3.out⟩
        | true =>
          refine wp_region_class (Below W1.heap.size W1) (by kernel_rfl) (by kernel_rfl) HSt.out ?_
          repeat (go_big_quiet_step ((first | (go_at_call 20; first | with_reducible exact HC1.out _ | with_reducible exact HC2.out _ | with_reducible exact HC3.out _) | (go_at_call 21; with_reducible exact HC4.out _))))
          refine wpQuiet_nil ?_
          intro w3 hx
          have HB3 : Hid (Below w.heap.size w w3) := Lib.hid (below_thn HB1.out (among_out hx))
          have hb3 := among_out hx
          have HX3 := Lib.hid (heap_lft HBX.out hb3)
          have HN3 : Hid (NumsAt w3 (some ⟨b, off, none⟩) len F) := Lib.hid (HN1.out.below hb3)
          clear hx hb3 hne x0 x1 x2 y0 HC1 HC2 HC3 HC4
          go_wp2_with fail
          have HRS := Lib.hid (show 2 ≤ (len : Int) ∧ (len : Int) ≤ 21 by omega)
          have HR2' := Lib.hid (show 0 ≤ lk ∧ lk ≤ 50 by have h := HR2.out; simp at h; omega)
          have HR3' := Lib.hid (show 0 ≤ ft ∧ ft ≤ hh by have h := HR3.out; simp at h; omega)
          go_loopw [3] (fun i wr => ∃ k : Nat, 1 ≤ k ∧ k ≤ len ∧ i = .int .i64 k ∧ UpTo F k ∧ Below w3.heap.size w3 wr) (fun i _ => len - (intOf i).toNat)
          case atStart => exact ⟨1, by omega, by omega, rfl, upTo_one E0.out, Below.refl _ _⟩
          case round =>
            obtain ⟨k, hk1, hk, rfl, hu, hB⟩ := hrel
            have HU := Lib.hid hu
            have HB := Lib.hid hB
            have HXR := Lib.hid (heap_lft HX3.out hB)
            have HNR := Lib.hid (HN3.out.below hB)
            clear hu hB
            have t0 := heap_cell HXR.out (j := 0) rfl
            by_cases hlt : k < len
            · obtain ⟨j, rfl⟩ : ∃ j, k = j + 1 := ⟨k - 1, by omega⟩
              have c1 := HNR.out.at hlt
              have c0 := HNR.out.at (show j < len by omega)
              obtain ⟨f0, f1⟩ := HU.out.2.2 j (by omega)
              have e1 : IntKind.i64.wrap (((j + 1 : Nat) : Int) - 1) = (j : Int) := (IntWalk.i64_in _ (by omega)).trans (by omega)
              have e2 : ((j + 1 : Nat) : Int) < len := by omega
              have e3 : (j : Int) < len := by omega
              obtain ⟨f, hf⟩ : ∃ f, F j = f := ⟨_, rfl⟩
              obtain ⟨g, hg⟩ : ∃ g, F (j + 1) = g := ⟨_, rfl⟩
              rw [hf] at c0 f0 f1
              rw [hg] at c1
              have e4 : IntKind.i64.wrap (f + 1) = f + 1 := IntWalk.i64_in _ (by omega)
              obtain ⟨r, hr⟩ : ∃ r, decide (f + 1 ≤ g ∧ g ≤ 600) = r := ⟨_, rfl⟩
              have HF := Lib.hid hf
              have HG := Lib.hid hg
              have HR := Lib.hid hr
              clear hf hg hr
              have HC1 : Hid (∀ xq : Among (Below wr.heap.size wr), Calls Try.prog 20 #[.int .i64 g, .int .i64 (f + 1), .int .i64 600] xq.val fun e w' => e = .returned (.bool r) ∧ ∃ y : Among (Below wr.heap.size wr), w' = y.val) := Lib.hid (fun xq => calls_class ((rWithin_any g (f + 1) 600 xq.val).mono fun e w' h => ⟨h.1.trans (by rw [HR.out]), h.2 ▸ xq.ok⟩))
              have x0 := among_below c0
              have x1 := among_below c1
              have x2 := among_below t0
              have HSt2 : Hid (Below wr.heap.size wr wr.drew) := Lib.hid (Below.refl _ _).drew
              have hne : Nonempty (Among (Below wr.heap.size wr)) := ⟨⟨_, HSt2.out⟩⟩
              go_wp2_with fail
              clear c0 c1 t0
              refine wp_region_class (Below wr.heap.size wr) (by kernel_rfl) (by kernel_rfl) HSt2.out ?_
              repeat (go_big_quiet_step ((go_at_call 20; with_reducible exact HC1.out _)))
              refine wpQuiet_nil ?_
              intro w4 hx
              have HB4 := Lib.hid (below_thn HB.out (among_out hx))
              clear hx hne x0 x1 x2 e1 e4 HC1
              cases r with
              | true =>
                go_wp2_with fail
                go_roundw
                case rel => exact ⟨j + 1 + 1, by omega, by omega, by go_num, by
                  have h := HR.out
                  simp at h
                  have h1 := HF.out
                  have h2 := HG.out
                  obtain ⟨u0, u1, u2⟩ := HU.out
                  exact ⟨u0, ordered_upto u1 (by omega) (by rw [Nat.add_sub_cancel]; omega), fun i hi => by
                    by_cases e : i = j + 1
                    · subst e; omega
                    · exact u2 i (by omega)⟩, HB4.out⟩
                case measure => simp [intOf]; omega
              | false =>
                have HBE := Lib.hid (below_thn HB3.out HB4.out)
                go_wp2_with fail
                go_ret
                exact ⟨ret_bool (tank_no HOK.out (fun g' => absurd HR.out (by
                  have h1 := Pure.table_ge g' (i := j + 1) (by omega)
                  have h2 := Pure.ordered_lt g'.2.1.2.1 (i := j) (j := j + 1) (by omega) (by omega)
                  have h3 := HF.out
                  have h4 := HG.out
                  simp
                  omega))).symm, HBE.out⟩
            · obtain rfl : k = len := by omega
              have HBE := Lib.hid (below_thn HB3.out HB.out)
              go_wp2_with fail
              go_ret
              exact ⟨ret_bool (by
                rw [← HOK.out]
                refine (Pure.okTank_iff.2 ?_).symm
                obtain ⟨u0, u1, u2⟩ := HU.out
                have h1 := u2 (k - 1) (by omega)
                have h2 := HHH.out
                have h3 := HR3'.out
                exact ⟨hlen, ⟨u0, u1, h1.2⟩, HR2'.out, by omega⟩), HBE.out⟩
    · have e1 : (F 0 != 0) = true := by simpa using e0
      have E0 := Lib.hid e0
      clear e0
      refine wp_region_class (Below W1.heap.size W1) (by kernel_rfl) (by kernel_rfl) HSt.out ?_
      repeat (go_big_quiet_step ((first | (go_at_call 20; first | with_reducible exact HC1.out _ | with_reducible exact HC2.out _ | with_reducible exact HC3.out _) | (go_at_call 21; with_reducible exact HC4.out _))))
      refine wpQuiet_nil ?_
      intro w3 hx
      have HB3 : Hid (Below w.heap.size w w3) := Lib.hid (below_thn HB1.out (among_out hx))
      go_wp2_with fail
      go_ret
      exact ⟨ret_bool (tank_no HOK.out (fun g => E0.out g.2.1.1)).symm, HB3.out⟩
end Go.Proofs.Ytpgpebgimmaobaa
