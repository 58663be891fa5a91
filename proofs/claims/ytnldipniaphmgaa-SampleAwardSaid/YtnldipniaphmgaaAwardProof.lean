/-
  SampleAward returns true for every input: all three numbers of pence are taken below the greatest one by the statement itself. There is no condition.
  SampleAward: the walk of the law.
-/
import Derived.Test.YtnldipniaphmgaaAlive
import Derived.Test.YtnldipniaphmgaaOpen

namespace Go.Proofs.Ytnldipniaphmgaa
open Go.RowKit Go.Shelf

namespace Pure
theorem okAward_yes {a b u : Int} (a0 : 0 ≤ a) (a1 : a ≤ 1000000) (b0 : 0 ≤ b) (b1 : b ≤ 1000000) (u0 : 0 ≤ u) (u1 : u ≤ 1000000) : resI (err (okAward a b u) 2) (award a b u) = .tuple #[.int .i64 (award a b u), .int .i64 0] := by
  have : okAward a b u = true := by unfold okAward; simp [a0, a1, b0, b1, u0, u1]
  rw [this]
  rfl
theorem award_val {a b u n : Int} (h : (if (max a b - min a b) * 10 ≤ max a b then (a + b) / 2 else max (min a b) (min (max a b) u)) = n) : award a b u = n := by
  unfold award near middle
  simp only [decide_eq_true_eq]
  exact h
end Pure

theorem awardOk (a b u n : Int) (a0 : 0 ≤ a) (a1 : a ≤ 1000000) (b0 : 0 ≤ b) (b1 : b ≤ 1000000) (u0 : 0 ≤ u) (u1 : u ≤ 1000000) (h : (if (max a b - min a b) * 10 ≤ max a b then (a + b) / 2 else max (min a b) (min (max a b) u)) = n) (w : World) :
    Calls Try.prog 27 #[.int .i64 a, .int .i64 b, .int .i64 u] w fun e w' => e = .returned (.tuple #[.int .i64 n, .int .i64 0]) ∧ Below w.heap.size w w' :=
  (award_any a b u w).mono fun _ _ k => ⟨k.1.trans (by rw [Pure.okAward_yes a0 a1 b0 b1 u0 u1, Pure.award_val h]), k.2⟩

set_option maxHeartbeats 4000000 in
set_option maxRecDepth 100000 in
/-- One case of the walk: the numbers are known in their order, and so is the award. -/
theorem award_case (a b c x y z n : Int) (hx : Hid (a % 1000001 = x)) (hy : Hid (b % 1000001 = y)) (hz : Hid (c % 1000001 = z)) (a0 : 0 ≤ a) (a1 : a ≤ 4294967295) (b0 : 0 ≤ b) (b1 : b ≤ 4294967295) (c0 : 0 ≤ c) (c1 : c ≤ 4294967295)
    (x0 : 0 ≤ x) (x1 : x ≤ 1000000) (y0 : 0 ≤ y) (y1 : y ≤ 1000000) (z0 : 0 ≤ z) (z1 : z ≤ 1000000) (w : World)
    (h1 : Hid ((if (max x y - min x y) * 10 ≤ max x y then (x + y) / 2 else max (min x y) (min (max x y) z)) = n)) (h2 : Hid ((if (max y x - min y x) * 10 ≤ max y x then (y + x) / 2 else max (min y x) (min (max y x) z)) = n)) :
    Calls Try.prog 4 #[.int .u32 a, .int .u32 b, .int .u32 c] w fun e w' => e = .returned (.bool true) ∧ Below w.heap.size w w' := by
  go_enter Try.func4, Try.ntmps4
  go_wp2_with fail
  refine (alive_any _).mono ?_
  rintro e w1 ⟨rfl, hb1⟩
  go_wp2_with fail
  rw [hx.out, hy.out, hz.out]
  refine (awardOk x y z n x0 x1 y0 y1 z0 z1 h1.out _).mono ?_
  rintro e w2 ⟨rfl, hb2⟩
  go_wp2_with fail
  refine (awardOk y x z n y0 y1 x0 x1 z0 z1 h2.out _).mono ?_
  rintro e w3 ⟨rfl, hb3⟩
  have HB := Lib.hid (below_then (below_then hb1 hb2) hb3)
  clear hb1 hb2 hb3
  have key : ((max x y - min x y) * 10 ≤ max x y ∧ n = (x + y) / 2) ∨ (¬ (max x y - min x y) * 10 ≤ max x y ∧ n = max (min x y) (min (max x y) z)) := by
    have hn := h1.out
    split at hn
    · exact .inl ⟨by assumption, hn.symm⟩
    · exact .inr ⟨by assumption, hn.symm⟩
  clear h1 h2
  rcases Int.le_total x y with hxy | hxy
  · rcases key with ⟨hc, hn⟩ | ⟨hc, hn⟩
    · have hc' : 10 * (y - x) ≤ y := by omega
      clear hc
      obtain rfl : n = (x + y) / 2 := hn
      skip
      have g1 : x ≤ (x + y) / 2 := by omega
      have g2 : (x + y) / 2 ≤ y := by omega
      have g3 : 0 ≤ x + y := by omega
      have g4 : x + y ≤ 2000000 := by omega
      rcases Int.lt_trichotomy z x with hz1 | hz1 | hz1
      · go_wp2_with fail
        all_goals (go_ret; refine ⟨?_, HB.out⟩; first | rfl | (refine ret_bool ?_; rw [decide_eq_true_eq]; omega))
      · subst hz1
        go_wp2_with fail
        all_goals (go_ret; refine ⟨?_, HB.out⟩; first | rfl | (refine ret_bool ?_; rw [decide_eq_true_eq]; omega))
      · rcases Int.lt_or_le y z with hz2 | hz2
        · go_wp2_with fail
          all_goals (go_ret; refine ⟨?_, HB.out⟩; first | rfl | (refine ret_bool ?_; rw [decide_eq_true_eq]; omega))
        · go_wp2_with fail
          all_goals (go_ret; refine ⟨?_, HB.out⟩; first | rfl | (refine ret_bool ?_; rw [decide_eq_true_eq]; omega))
    · have hc' : y < 10 * (y - x) := by omega
      have h3 : n = x ∨ n = y ∨ n = z := by omega
      have h4 : x ≤ n ∧ n ≤ y := by omega
      have h5 : (x ≤ z → z ≤ y → n = z) := by omega
      have h6 : (z < x → n = x) ∧ (y < z → n = y) := by omega
      obtain ⟨h7, h8⟩ := h4
      clear hc hn
      have g3 : 0 ≤ x + y := by omega
      have g4 : x + y ≤ 2000000 := by omega
      by_cases hz1 : z < x
      · obtain rfl : n = x := h6.1 hz1
        clear h3 h5 h6
        go_wp2_with fail
        all_goals (go_ret; refine ⟨?_, HB.out⟩; first | rfl | (refine ret_bool ?_; rw [decide_eq_true_eq]; omega))
      · by_cases hz2 : y < z
        · obtain rfl : n = y := h6.2 hz2
          clear h3 h5 h6
          go_wp2_with fail
          all_goals (go_ret; refine ⟨?_, HB.out⟩; first | rfl | (refine ret_bool ?_; rw [decide_eq_true_eq]; omega))
        · obtain rfl : n = z := h5 (by omega) (by omega)
          clear h3 h5 h6
          go_wp2_with fail
          all_goals (go_ret; refine ⟨?_, HB.out⟩; first | rfl | (refine ret_bool ?_; rw [decide_eq_true_eq]; omega))
  · rcases key with ⟨hc, hn⟩ | ⟨hc, hn⟩
    · have hc' : 10 * (x - y) ≤ x := by omega
      clear hc
      obtain rfl : n = (x + y) / 2 := hn
      skip
      have g1 : y ≤ (x + y) / 2 := by omega
      have g2 : (x + y) / 2 ≤ x := by omega
      have g3 : 0 ≤ x + y := by omega
      have g4 : x + y ≤ 2000000 := by omega
      rcases Int.lt_trichotomy z y with hz1 | hz1 | hz1
      · go_wp2_with fail
        all_goals (go_ret; refine ⟨?_, HB.out⟩; first | rfl | (refine ret_bool ?_; rw [decide_eq_true_eq]; omega))
      · subst hz1
        go_wp2_with fail
        all_goals (go_ret; refine ⟨?_, HB.out⟩; first | rfl | (refine ret_bool ?_; rw [decide_eq_true_eq]; omega))
      · rcases Int.lt_or_le x z with hz2 | hz2
        · go_wp2_with fail
          all_goals (go_ret; refine ⟨?_, HB.out⟩; first | rfl | (refine ret_bool ?_; rw [decide_eq_true_eq]; omega))
        · go_wp2_with fail
          all_goals (go_ret; refine ⟨?_, HB.out⟩; first | rfl | (refine ret_bool ?_; rw [decide_eq_true_eq]; omega))
    · have hc' : x < 10 * (x - y) := by omega
      have h3 : n = x ∨ n = y ∨ n = z := by omega
      have h4 : y ≤ n ∧ n ≤ x := by omega
      have h5 : (y ≤ z → z ≤ x → n = z) := by omega
      have h6 : (z < y → n = y) ∧ (x < z → n = x) := by omega
      obtain ⟨h7, h8⟩ := h4
      clear hc hn
      have g3 : 0 ≤ x + y := by omega
      have g4 : x + y ≤ 2000000 := by omega
      by_cases hz1 : z < y
      · obtain rfl : n = y := h6.1 hz1
        clear h3 h5 h6
        go_wp2_with fail
        all_goals (go_ret; refine ⟨?_, HB.out⟩; first | rfl | (refine ret_bool ?_; rw [decide_eq_true_eq]; omega))
      · by_cases hz2 : x < z
        · obtain rfl : n = x := h6.2 hz2
          clear h3 h5 h6
          go_wp2_with fail
          all_goals (go_ret; refine ⟨?_, HB.out⟩; first | rfl | (refine ret_bool ?_; rw [decide_eq_true_eq]; omega))
        · obtain rfl : n = z := h5 (by omega) (by omega)
          clear h3 h5 h6
          go_wp2_with fail
          all_goals (go_ret; refine ⟨?_, HB.out⟩; first | rfl | (refine ret_bool ?_; rw [decide_eq_true_eq]; omega))

/-- The walk of SampleAward. -/
theorem award_walk (a b c : Int) (a0 : 0 ≤ a) (a1 : a ≤ 4294967295) (b0 : 0 ≤ b) (b1 : b ≤ 4294967295) (c0 : 0 ≤ c) (c1 : c ≤ 4294967295) (w : World) :
    Calls Try.prog 4 #[.int .u32 a, .int .u32 b, .int .u32 c] w fun e w' => e = .returned (.bool true) ∧ Below w.heap.size w w' := by
  refine award_case a b c _ _ _ _ (Lib.hid rfl) (Lib.hid rfl) (Lib.hid rfl) a0 a1 b0 b1 c0 c1 (by omega) (by omega) (by omega) (by omega) (by omega) (by omega) w (Lib.hid rfl) (Lib.hid ?_)
  rw [Int.max_comm (b % 1000001), Int.min_comm (b % 1000001), Int.add_comm (b % 1000001)]

end Go.Proofs.Ytnldipniaphmgaa

namespace Go.Proofs.Ytnldipniaphmgaa
open Go.ChangeShapes Go.WideShapes Go.ChangeAt Go.RowKit Go.Joins

theorem u32_span {n : Int} (h : (Lit.int .u32 n).wf = true) : 0 ≤ n ∧ n ≤ 4294967295 := by
  simp [Lit.wf, IntKind.min, IntKind.max, IntKind.bits, IntKind.signed] at h
  omega

set_option maxRecDepth 100000 in
theorem award_lifted (os : Os) (started : os.Started) (H : Type) (enc : TypeId × Value → H) :
    ReturnsInHanded {} Try.checked os 4 .any (Rows.sampleAwardSpec.pre6 enc Try.prog Try.f4 Rows.sampleAwardRow.domain false) (Rows.sampleAwardSpec.post enc Try.prog Try.f4 false true false false) := by
  refine returnsInHanded_of_change (C := Try.checked) ownKnob_none started (by kernel_rfl) Try.func4
    (ChangeSpec.witness6 (enc := enc) (C := Try.checked) false ⟨#[], #[.int .u32 0, .int .u32 0, .int .u32 0], []⟩ 8 (by kernel_rfl) (by kernel_rfl) (by kernel_rfl) (by kernel_rfl)) ?_
  intro W base args ds gs before hval0 hW _ _
  have hval : ∀ (j : Nat) t v, Try.f4.params[j]? = some t → args[j]? = some v → Value.okWide Try.prog W .any base t v := hval0
  have hW' := hW
  obtain ⟨pp, qq, hA0, hV, rfl, hfz, hnd⟩ := hW
  have hA : DataW.TrodAll enc Try.prog W 0 (fun _ => true) true Try.f4.params.toList args.toList ds pp := hA0
  rw [Try.params4] at hA hval
  obtain ⟨v0, vs0, d0, ds0, p0, q0, hargs, rfl, rfl, h0, r0⟩ := trodAll_cons hA
  obtain ⟨v1, vs1, d1, ds1, p1, q1, rfl, rfl, rfl, h1, r1⟩ := trodAll_cons r0
  obtain ⟨v2, vs2, d2, ds2, p2, q2, rfl, rfl, rfl, h2, r2⟩ := trodAll_cons r1
  obtain ⟨rfl, rfl, rfl⟩ := trodAll_nil r2
  obtain rfl : args = #[v0, v1, v2] := by cases args; simp_all
  obtain ⟨rfl, rfl⟩ := trodVars_none hV
  obtain ⟨a, rfl, rfl, rfl, wa⟩ := open_int Try.underlying56 (hval 0 56 v0 rfl rfl) h0
  obtain ⟨b, rfl, rfl, rfl, wb⟩ := open_int Try.underlying56 (hval 1 56 v1 rfl rfl) h1
  obtain ⟨c, rfl, rfl, rfl, wc⟩ := open_int Try.underlying56 (hval 2 56 v2 rfl rfl) h2
  clear hA0 hval0
  simp only [List.append_nil] at hW'
  refine (award_walk a b c (u32_span wa).1 (u32_span wa).2 (u32_span wb).1 (u32_span wb).2 (u32_span wc).1 (u32_span wc).2 W).mono fun e W' ⟨he, hb⟩ => ?_
  subst he
  refine ⟨_, rfl, _, _, _, [], [], [], hW', ?_, ?_, rfl, hb.frame _, fun h => by cases h⟩
  · exact trodAll_mk1 (shut_bool Try.underlying4 true)
  · exact trodAll_cons_mk (shut_int Try.underlying56 wa) (trodAll_cons_mk (shut_int Try.underlying56 wb) (trodAll_cons_mk (shut_int Try.underlying56 wc) trodAll_mk0))

/-- SampleAward returns true for every input. -/
theorem award_holds : Rows.SampleAwardSaid :=
  OpenClaim.holds_of_wide 4 Try.f4 rfl rfl rfl rfl rfl rfl rfl ⟨rfl, rfl, rfl, rfl, rfl⟩ rfl rfl rfl rfl rfl (by kernel_rfl) Try.func4 (by kernel_rfl)
    (of_decide_eq_true (by kernel_rfl)) (by unfold Func.isWrapper; first | (rw [if_pos (by decide +kernel)]; kernel_rfl) | (rw [if_neg (by decide +kernel)]; exact ⟨rfl, rfl⟩))
    (fun os started H enc _ => award_lifted os started H enc)

end Go.Proofs.Ytnldipniaphmgaa
