/-
  SampleParts: the walk of the law.
-/
import Derived.Test.YtiiecehmldipmaaAlive
import Derived.Test.YtiiecehmldipmaaOver
import Derived.Test.YtiiecehmldipmaaPartsMath
import Derived.BigRegion
namespace Go.Proofs.Ytiiecehmldipmaa
open Go.RowKit Go.Shelf

theorem chanceV {b lo hi d o f pn pd : Int} (hc : Pure.okCargo b lo hi = true) (d0 : lo ≤ d) (d1 : d ≤ hi) (o0 : 0 ≤ o) (o1 : o ≤ b) (f0 : 0 ≤ f) (f1 : f ≤ o) (h : Hid (partV (Pure.ways b d o f) (Pure.sets b o) = .agg #[.int .i64 pn, .int .i64 pd])) (w : World) :
    Calls Try.prog 27 #[cargoV b lo hi, .int .i64 d, .agg #[.int .i64 o, .int .i64 f]] w fun e w' => e = .returned (.tuple #[.agg #[.int .i64 pn, .int .i64 pd], .int .i64 0]) ∧ Below w.heap.size w w' :=
  (chance_any b lo hi d o f w).mono fun _ _ g => ⟨g.1.trans (by
    have h2 : Pure.okDraw b o f = true := by unfold Pure.okDraw; rw [decide_eq_true_eq]; omega
    have h3 : Pure.okIn lo hi d = true := by unfold Pure.okIn; rw [decide_eq_true_eq]; omega
    rw [Pure.res2_zero (by rw [hc, h2, h3]; rfl), h.out]), g.2⟩
theorem leastV {n d pn pd : Int} (hn : 0 ≤ n) (hn1 : n ≤ 9223372036854775807) (hd : 0 < d) (hd1 : d ≤ 9223372036854775807) (h : Hid (partV n d = .agg #[.int .i64 pn, .int .i64 pd])) (w : World) :
    Calls Try.prog 37 #[.int .i64 n, .int .i64 d] w fun e w' => e = .returned (.agg #[.int .i64 pn, .int .i64 pd]) ∧ Below w.heap.size w w' :=
  (rLeast_any n d hn hn1 hd hd1 w).mono fun _ _ g => ⟨g.1.trans (by rw [h.out]), g.2⟩
/-- What Rest leaves of a cargo of which any bags may be dirty. -/
theorem restAll {b o f : Int} (b1 : 1 ≤ b) (b2 : b ≤ 36) (o0 : 0 ≤ o) (o1 : o < b) (f0 : 0 ≤ f) (f1 : f ≤ o) (w : World) :
    Calls Try.prog 28 #[cargoV b 0 b, .agg #[.int .i64 o, .int .i64 f]] w fun e w' => e = .returned (.tuple #[.agg #[.int .i64 (b - o), .int .i64 0, .int .i64 (b - o)], .int .i64 0]) ∧ Below w.heap.size w w' := by
  obtain ⟨bn, rfl⟩ : ∃ bn : Nat, b = bn := ⟨b.toNat, by omega⟩
  have hok : Pure.okCargo bn 0 bn = true := by unfold Pure.okCargo; rw [decide_eq_true_eq]; omega
  have hdk : Pure.okDraw bn o f = true := by unfold Pure.okDraw; rw [decide_eq_true_eq]; omega
  have hs : max 0 f ≤ min (bn : Int) (bn - o + f) := by omega
  have hpe : Pure.okParts 0 (fun _ => 0) (fun _ => 0) = true := Pure.okParts_true (fun _ h => absurd h (Nat.not_lt_zero _))
  have hE : Pure.canE bn 0 bn o f = 0 := by
    unfold Pure.canE
    rw [hpe, Pure.afterE_val hok hdk, Int.toNat_natCast, (Pure.some_iff (b := bn) (o := o) (Int.le_refl 0) (Int.le_refl _) f0 f1).2 hs]
    rfl
  have hR : Pure.restE bn 0 bn o f = 0 := by
    unfold Pure.restE
    rw [if_pos hE, if_neg (by omega)]
  have hv := Pure.span_vals (b := bn) (o := o) (Int.le_refl 0) (Int.le_refl _) f0 f1 hs
  refine (rest_top bn 0 bn o f w).mono fun _ _ g => ⟨g.1.trans ?_, g.2⟩
  rw [hR, Pure.pick_zero rfl, Pure.pick_zero rfl, Pure.pick_zero rfl, Int.toNat_natCast, hv.1, hv.2, show max 0 f - f = 0 by omega, show min (bn : Int) (bn - o + f) - f = bn - o by omega]
theorem Pure.ways_le_int {b d o j : Int} (hd0 : 0 ≤ d) (hd : d ≤ b) (ho0 : 0 ≤ o) (hj0 : 0 ≤ j) (hj : j ≤ o) : Pure.ways b d o j ≤ Pure.sets b o := by
  obtain ⟨n, rfl⟩ : ∃ n : Nat, j = n := ⟨j.toNat, by omega⟩
  exact Pure.ways_le_sets hd0 hd ho0 hj
theorem part_alike {a b c d : Int} (ha : 0 ≤ a) (hb : 0 < b) (hc : 0 ≤ c) (hd : 0 < d) (h : a * d = c * b) : partV a b = partV c d := by
  obtain ⟨h1, h2⟩ := Pure.low_same ha hb hc hd h
  show Value.agg #[.int .i64 _, .int .i64 _] = .agg #[.int .i64 _, .int .i64 _]
  rw [h1, h2]
theorem box_three {W v : World} {i : Nat} {a b c : Value} {t : TypeId} (hq : Below W.heap.size W v) (hz : BoxIn W.heap.size i (.cells #[a, b, c] t) v) (x y z : Value) :
    BoxAt (((v.setCell ⟨i, 0, none⟩ x).setCell ⟨i, 1, none⟩ y).setCell ⟨i, 2, none⟩ z) (.pointer (some ⟨i, 0, none⟩)) #[x, y, z] t W.heap.size ∧ Below W.heap.size W (((v.setCell ⟨i, 0, none⟩ x).setCell ⟨i, 1, none⟩ y).setCell ⟨i, 2, none⟩ z) :=
  ⟨⟨_, rfl, hz.1, heap_set (heap_set (heap_set hz.2 0 x) 1 y) 2 z⟩, ((hq.setCell (p := ⟨i, 0, none⟩) hz.1 _).setCell (p := ⟨i, 1, none⟩) hz.1 _).setCell (p := ⟨i, 2, none⟩) hz.1 _⟩
theorem chooseV1 {n k F : Int} (h36 : n ≤ 36) (h : Hid (Pure.sets n k = F)) (w : World) :
    Calls Try.prog 30 #[.int .i64 n, .int .i64 k] w fun e w' => e = .returned (.int .i64 F) ∧ w = w' :=
  (choose_any n k h36 w).mono fun _ _ g => ⟨g.1.trans (by rw [h.out]), g.2⟩

set_option maxHeartbeats 16000000 in
set_option maxRecDepth 100000 in
theorem parts_good (q0 q1 q2 q3 q4 b d c k F G wn wd : Int) (a : Nat) (q00 : 0 ≤ q0) (q01 : q0 ≤ 255) (q10 : 0 ≤ q1) (q11 : q1 ≤ 255) (q20 : 0 ≤ q2) (q21 : q2 ≤ 255) (q30 : 0 ≤ q3) (q31 : q3 ≤ 255) (q40 : 0 ≤ q4) (q41 : q4 ≤ 255)
    (hbb : Hid (2 + q0 % 35 = b)) (hd : Hid (q1 % (b + 1) = d)) (ha : Hid (q2 % b = (a : Int))) (hcc : Hid (q3 % (b - a + 1) = c)) (hk : Hid (q4 % (a + c + 1) = k)) (hc : Hid (Pure.okCargo b 0 b = true)) (b1 : 2 ≤ b) (b2 : b ≤ 36) (d0 : 0 ≤ d) (d1 : d ≤ b) (a1 : (a : Int) < b) (c0' : 0 ≤ c) (c1' : c ≤ b - a) (k0 : 0 ≤ k) (k1 : k ≤ a + c)
    (hF : Hid (Pure.sets b a = F)) (hG : Hid (Pure.sets (b - a) c = G)) (F0 : 0 < F) (F1 : F ≤ 68719476736) (G0 : 0 < G) (G1 : G ≤ 68719476736) (FG : F * G ≤ 150094635296999121) (hW : Hid (partV (Pure.ways b d (a + c) k) (Pure.sets b (a + c)) = .agg #[.int .i64 wn, .int .i64 wd])) (w : World) :
    Calls Try.prog 7 #[.int .u8 q0, .int .u8 q1, .int .u8 q2, .int .u8 q3, .int .u8 q4] w fun e w' => e = .returned (.bool true) ∧ Below w.heap.size w w' := by
  go_enter Try.func7, Try.ntmps7
  go_wp2_with fail
  refine (alive_any _).mono ?_
  rintro e w1 ⟨rfl, hb1⟩
  have HB := Lib.hid hb1
  clear hb1
  go_wp2_with fail
  rw [hbb.out]
  refine (bags_any _ _).mono ?_
  rintro e w2 ⟨rfl, hb1⟩
  have hb2 := hb1.alloc hb1.size (.cells #[.int .i64 b, .int .i64 0, .int .i64 b] 25)
  replace HB := Lib.hid (below_then HB.out hb2)
  have hx := heap_top w2 (.cells #[.int .i64 b, .int .i64 0, .int .i64 b] 25) rfl
  obtain ⟨Bc, hBc⟩ : ∃ B, w2.heap.size = B := ⟨_, rfl⟩
  obtain ⟨w3, hw3⟩ : ∃ v, w2.alloc (.cells #[.int .i64 b, .int .i64 0, .int .i64 b] 25) = v := ⟨_, rfl⟩
  rw [hBc] at hx
  rw [hw3] at HB hx
  have HC := Lib.hid hx
  clear hb1 hb2 hx
  have c0 := heap_cell HC.out (j := 0) rfl
  have c1 := heap_cell HC.out (j := 1) rfl
  have c2 := heap_cell HC.out (j := 2) rfl
  have t1 : (0 : Int) < b + 1 := by omega
  go_upto_region 4 with fail
  clear hBc hw3
  rw [hd.out]
  clear t1
  go_upto_region 5 with fail
  rw [ha.out]
  have t1 : (0 : Int) < b - a + 1 := by omega
  go_upto_region 6 with fail
  rw [hcc.out]
  clear t1
  have t1 : (0 : Int) < a + c + 1 := by omega
  go_upto_region 7 with fail
  rw [hk.out]
  clear t1 c0 c1 c2
  have HK : Hid (∀ v : World, Below w3.heap.size w3 v → (v.cell? ⟨Bc, 0, none⟩ = some (.int .i64 b) ∧ v.cell? ⟨Bc, 1, none⟩ = some (.int .i64 0) ∧ v.cell? ⟨Bc, 2, none⟩ = some (.int .i64 b) ∧ Below w3.heap.size w3 v)) :=
    Lib.hid (fun v k => ⟨below_cell k (heap_cell HC.out (j := 0) rfl), below_cell k (heap_cell HC.out (j := 1) rfl), below_cell k (heap_cell HC.out (j := 2) rfl), k⟩)
  have t1 : IntKind.i64.wrap (a + c) = a + c := IntWalk.i64_in _ (by omega)
  go_cut [17, 18] (fun s t wx => BoxAt wx s #[.int .i64 wn, .int .i64 wd] 31 w3.heap.size ∧ t = .int .i64 0 ∧ Below w3.heap.size w3 wx)
  case first =>
    as_aux_lemma =>
      go_region_held3 (fun v => v.cell? ⟨Bc, 0, none⟩ = some (.int .i64 b) ∧ v.cell? ⟨Bc, 1, none⟩ = some (.int .i64 0) ∧ v.cell? ⟨Bc, 2, none⟩ = some (.int .i64 b) ∧ Below w3.heap.size w3 v)
        (first | exact HK.out _ (Below.refl _ _).drew | exact HK.out _ ((Below.refl _ _).alloc (Nat.le_refl _) _).drew | exact HK.out _ hqu1 | exact HK.out _ (Below.alloc hqu1 (Below.size hqu1) _) | exact HK.out _ (box_two hqu1 HZ.out _ _).2 | exact HK.out _ hqu0 | exact HK.out _ (Below.alloc hqu0 (Below.size hqu0) _) | exact HK.out _ (box_two hqu0 HZ.out _ _).2)
        (first
          | (go_at_call 26; refine (drawn_any _ _ _).mono ?_; rintro e u0 ⟨rfl, hbu0⟩; (first | (have hz := HZ.out.up hbu0; have z0 := hz.cell 0 rfl; have z1 := hz.cell 1 rfl; have y0 := hz.free 0; have y1 := hz.free 1; have HZ := Lib.hid hz; clear hz) | (have hz := boxIn_drew hbu0; have z0 := hz.cell 0 rfl; have z1 := hz.cell 1 rfl; have y0 := hz.free 0; have y1 := hz.free 1; have HZ := Lib.hid hz; clear hz) | (have hz := boxIn_new (n := w3.heap.size) hqu1.size hbu0; have z0 := hz.cell 0 rfl; have z1 := hz.cell 1 rfl; have y0 := hz.free 0; have y1 := hz.free 1; have HZ := Lib.hid hz; clear hz) | (have hz := boxIn_new (n := w3.heap.size) hqu0.size hbu0; have z0 := hz.cell 0 rfl; have z1 := hz.cell 1 rfl; have y0 := hz.free 0; have y1 := hz.free 1; have HZ := Lib.hid hz; clear hz) | skip); have hqu0 : Below w3.heap.size w3 u0 := below_then (And.right (And.right (And.right (by assumption)))) hbu0)
          | (go_at_call 27; refine (chanceV hc.out d0 d1 (show 0 ≤ (a : Int) + c by omega) (by omega) k0 k1 hW _).mono ?_; rintro e u1 ⟨rfl, hbu1⟩; (first | (have hz := HZ.out.up hbu1; have z0 := hz.cell 0 rfl; have z1 := hz.cell 1 rfl; have y0 := hz.free 0; have y1 := hz.free 1; have HZ := Lib.hid hz; clear hz) | (have hz := boxIn_drew hbu1; have z0 := hz.cell 0 rfl; have z1 := hz.cell 1 rfl; have y0 := hz.free 0; have y1 := hz.free 1; have HZ := Lib.hid hz; clear hz) | (have hz := boxIn_new (n := w3.heap.size) hqu1.size hbu1; have z0 := hz.cell 0 rfl; have z1 := hz.cell 1 rfl; have y0 := hz.free 0; have y1 := hz.free 1; have HZ := Lib.hid hz; clear hz) | (have hz := boxIn_new (n := w3.heap.size) hqu0.size hbu1; have z0 := hz.cell 0 rfl; have z1 := hz.cell 1 rfl; have y0 := hz.free 0; have y1 := hz.free 1; have HZ := Lib.hid hz; clear hz) | skip); have hqu1 : Below w3.heap.size w3 u1 := below_then (And.right (And.right (And.right (by assumption)))) hbu1))
      all_goals
        go_wp2_with fail
        go_meet
        first | exact ⟨(box_last hqu1 _ _).1, rfl, (box_last hqu1 _ _).2⟩ | exact ⟨(box_two hqu1 HZ.out _ _).1, rfl, (box_two hqu1 HZ.out _ _).2⟩
  case rest =>
    obtain ⟨w4, rfl⟩ : ∃ x, x = wc := ⟨_, rfl⟩
    obtain ⟨⟨Bw, rfl, hn', hh⟩, rfl, hbc⟩ := hcut
    replace HC := Lib.hid (heap_lift HC.out hbc)
    replace HB := Lib.hid (below_then HB.out hbc)
    have HBw := Lib.hid hh
    clear hbc HK hn' hh
    clear t1
    have HK : Hid (∀ v : World, Below w4.heap.size w4 v → (v.cell? ⟨Bc, 0, none⟩ = some (.int .i64 b) ∧ v.cell? ⟨Bc, 1, none⟩ = some (.int .i64 0) ∧ v.cell? ⟨Bc, 2, none⟩ = some (.int .i64 b) ∧ Below w4.heap.size w4 v)) :=
      Lib.hid (fun v k => ⟨below_cell k (heap_cell HC.out (j := 0) rfl), below_cell k (heap_cell HC.out (j := 1) rfl), below_cell k (heap_cell HC.out (j := 2) rfl), k⟩)
    have t1 : IntKind.i64.wrap (b - a) = b - a := IntWalk.i64_in _ (by omega)
    have c0 := heap_cell HC.out (j := 0) rfl
    have c1 := heap_cell HC.out (j := 1) rfl
    have c2 := heap_cell HC.out (j := 2) rfl
    go_wp2_with fail
    clear c0 c1 c2
    go_cut [19, 20] (fun s t wx => s = .int .i64 F ∧ t = .int .i64 G ∧ Below w4.heap.size w4 wx)
    case first =>
      as_aux_lemma =>
        go_region_held3 (fun v => v.cell? ⟨Bc, 0, none⟩ = some (.int .i64 b) ∧ v.cell? ⟨Bc, 1, none⟩ = some (.int .i64 0) ∧ v.cell? ⟨Bc, 2, none⟩ = some (.int .i64 b) ∧ Below w4.heap.size w4 v)
          (first | exact HK.out _ (Below.refl _ _).drew | with_reducible exact HK.out _ (by assumption))
          (first
            | (go_at_call 30; (first | (with_reducible refine (chooseV1 b2 hF _).mono ?_) | (with_reducible refine (chooseV1 (show b - (a : Int) ≤ 36 by omega) hG _).mono ?_)); rintro e u0 ⟨rfl, rfl⟩; have hqu0 := HK.out _ (Below.refl _ _).drew))
        all_goals
          go_wp2_with fail
          go_meet
          exact ⟨rfl, rfl, (Below.refl _ _).drew⟩
    case rest =>
      obtain ⟨w5, rfl⟩ : ∃ x, x = wc := ⟨_, rfl⟩
      obtain ⟨rfl, rfl, hbc⟩ := hcut
      replace HC := Lib.hid (heap_lift HC.out hbc)
      replace HBw := Lib.hid (heap_lift HBw.out hbc)
      replace HB := Lib.hid (below_then HB.out hbc)
      clear hbc HK t1
      go_wp2_with fail
      go_loopw [21, 90] (fun s i wr => ∃ j : Nat, j ≤ a + 1 ∧ i = .int .i64 j ∧ s = .int .i64 (Pure.partsTo b d a c k j) ∧ Below w5.heap.size w5 wr) (fun _ i _ => a + 1 - (intOf i).toNat)
      case atStart => exact ⟨0, by omega, rfl, rfl, Below.refl _ _⟩
      case round =>
        obtain ⟨j, hj, rfl, hs, hbr⟩ := hrel
        obtain ⟨Q, hQ⟩ : ∃ Q, Pure.partsTo b d a c k j = Q := ⟨_, rfl⟩
        rw [hQ] at hs
        subst hs
        have Q0 : 0 ≤ Q := by rw [← hQ]; exact Pure.partsTo_nonneg _ _ _ _ _ _
        have Q1 : Q ≤ F * G := by
          rw [← hQ, ← hF.out, ← hG.out]
          refine Int.le_trans (Pure.partsTo_mono b d a c k (n := ((a : Int) + 1).toNat) (by omega)) (Pure.parts_le (by omega) (by omega) (by omega) (by omega) (by omega) (by omega) (by omega))
        have HQ := Lib.hid hQ
        have HBR := Lib.hid hbr
        replace HC := Lib.hid (heap_lift HC.out hbr)
        replace HBw := Lib.hid (heap_lift HBw.out hbr)
        clear hQ hbr
        by_cases hj1 : j < a + 1
        · obtain ⟨M, hM⟩ : ∃ M, Pure.ways b d a j = M := ⟨_, rfl⟩
          have m0 : 0 ≤ M := by rw [← hM]; exact Pure.ways_nonneg _ _ _ _
          have m1 : M ≤ F := by rw [← hM, ← hF.out]; exact Pure.ways_le_int (by omega) (by omega) (by omega) (by omega) (by omega)
          have HV : Hid (partV (Pure.ways b d a j) (Pure.sets b a) = .agg #[.int .i64 (M / Pure.gcd M F), .int .i64 (F / Pure.gcd M F)]) := Lib.hid (by rw [hM, hF.out])
          have HV2 : Hid (partV M F = .agg #[.int .i64 (M / Pure.gcd M F), .int .i64 (F / Pure.gcd M F)]) := Lib.hid rfl
          obtain ⟨pn, hpn⟩ : ∃ pn, M / Pure.gcd M F = pn := ⟨_, rfl⟩
          obtain ⟨pd, hpd⟩ : ∃ pd, F / Pure.gcd M F = pd := ⟨_, rfl⟩
          rw [hpn, hpd] at HV HV2
          have HM := Lib.hid hM
          clear hpn hpd hM
          go_wp2_with fail
          have HK : Hid (∀ v : World, Below wr.heap.size wr v → (v.cell? ⟨Bc, 0, none⟩ = some (.int .i64 b) ∧ v.cell? ⟨Bc, 1, none⟩ = some (.int .i64 0) ∧ v.cell? ⟨Bc, 2, none⟩ = some (.int .i64 b) ∧ Below wr.heap.size wr v)) :=
            Lib.hid (fun v k => ⟨below_cell k (heap_cell HC.out (j := 0) rfl), below_cell k (heap_cell HC.out (j := 1) rfl), below_cell k (heap_cell HC.out (j := 2) rfl), k⟩)
          go_cut [23, 24] from 91 to 170 (fun s t wx => BoxAt wx s #[.int .i64 pn, .int .i64 pd] 31 wr.heap.size ∧ t = .int .i64 0 ∧ Below wr.heap.size wr wx)
          case first =>
            as_aux_lemma =>
              go_region_held3 (fun v => v.cell? ⟨Bc, 0, none⟩ = some (.int .i64 b) ∧ v.cell? ⟨Bc, 1, none⟩ = some (.int .i64 0) ∧ v.cell? ⟨Bc, 2, none⟩ = some (.int .i64 b) ∧ Below wr.heap.size wr v)
                (first | exact HK.out _ (Below.refl _ _).drew | exact HK.out _ ((Below.refl _ _).alloc (Nat.le_refl _) _).drew | exact HK.out _ hqu1 | exact HK.out _ (Below.alloc hqu1 (Below.size hqu1) _) | exact HK.out _ (box_two hqu1 HZ.out _ _).2 | exact HK.out _ hqu0 | exact HK.out _ (Below.alloc hqu0 (Below.size hqu0) _) | exact HK.out _ (box_two hqu0 HZ.out _ _).2)
                (first
                  | (go_at_call 26; refine (drawn_any _ _ _).mono ?_; rintro e u0 ⟨rfl, hbu0⟩; (first | (have hz := HZ.out.up hbu0; have z0 := hz.cell 0 rfl; have z1 := hz.cell 1 rfl; have y0 := hz.free 0; have y1 := hz.free 1; have HZ := Lib.hid hz; clear hz) | (have hz := boxIn_drew hbu0; have z0 := hz.cell 0 rfl; have z1 := hz.cell 1 rfl; have y0 := hz.free 0; have y1 := hz.free 1; have HZ := Lib.hid hz; clear hz) | (have hz := boxIn_new (n := wr.heap.size) hqu1.size hbu0; have z0 := hz.cell 0 rfl; have z1 := hz.cell 1 rfl; have y0 := hz.free 0; have y1 := hz.free 1; have HZ := Lib.hid hz; clear hz) | (have hz := boxIn_new (n := wr.heap.size) hqu0.size hbu0; have z0 := hz.cell 0 rfl; have z1 := hz.cell 1 rfl; have y0 := hz.free 0; have y1 := hz.free 1; have HZ := Lib.hid hz; clear hz) | skip); have hqu0 : Below wr.heap.size wr u0 := below_then (And.right (And.right (And.right (by assumption)))) hbu0)
                  | (go_at_call 27; refine (chanceV hc.out d0 d1 (show 0 ≤ (a : Int) by omega) (by omega) (show 0 ≤ (j : Int) by omega) (by omega) HV _).mono ?_; rintro e u1 ⟨rfl, hbu1⟩; (first | (have hz := HZ.out.up hbu1; have z0 := hz.cell 0 rfl; have z1 := hz.cell 1 rfl; have y0 := hz.free 0; have y1 := hz.free 1; have HZ := Lib.hid hz; clear hz) | (have hz := boxIn_drew hbu1; have z0 := hz.cell 0 rfl; have z1 := hz.cell 1 rfl; have y0 := hz.free 0; have y1 := hz.free 1; have HZ := Lib.hid hz; clear hz) | (have hz := boxIn_new (n := wr.heap.size) hqu1.size hbu1; have z0 := hz.cell 0 rfl; have z1 := hz.cell 1 rfl; have y0 := hz.free 0; have y1 := hz.free 1; have HZ := Lib.hid hz; clear hz) | (have hz := boxIn_new (n := wr.heap.size) hqu0.size hbu1; have z0 := hz.cell 0 rfl; have z1 := hz.cell 1 rfl; have y0 := hz.free 0; have y1 := hz.free 1; have HZ := Lib.hid hz; clear hz) | skip); have hqu1 : Below wr.heap.size wr u1 := below_then (And.right (And.right (And.right (by assumption)))) hbu1))
              all_goals
                go_wp2_with fail
                go_meet
                first | exact ⟨(box_last hqu1 _ _).1, rfl, (box_last hqu1 _ _).2⟩ | exact ⟨(box_two hqu1 HZ.out _ _).1, rfl, (box_two hqu1 HZ.out _ _).2⟩
          case rest =>
            obtain ⟨v1, rfl⟩ : ∃ x, x = wc := ⟨_, rfl⟩
            obtain ⟨⟨Bp, rfl, hn', hh⟩, rfl, hbc⟩ := hcut
            replace HC := Lib.hid (heap_lift HC.out hbc)
            replace HBw := Lib.hid (heap_lift HBw.out hbc)
            replace HBR := Lib.hid (below_then HBR.out hbc)
            have HBp := Lib.hid hh
            clear hbc HK hn' hh
            have z0 := heap_cell HBp.out (j := 0) rfl
            have z1 := heap_cell HBp.out (j := 1) rfl
            go_wp2_with fail
            refine (overOk m0 m1 F0 F1 HV2 _).mono ?_
            rintro e v3 ⟨rfl, hb3⟩
            replace HC := Lib.hid (heap_lift HC.out hb3)
            replace HBw := Lib.hid (heap_lift HBw.out hb3)
            replace HBR := Lib.hid (below_then HBR.out hb3)
            clear hb3 z0 z1 HBp
            by_cases hz : M = 0 ∨ k - j < 0 ∨ c < k - j
            · have HN : Hid (Pure.partsTo b d a c k (j + 1) = Q) := Lib.hid (by
                show Pure.partsTo b d a c k j + Pure.partOf b d a c k j = Q
                unfold Pure.partOf
                rw [if_pos (by rw [HM.out]; exact hz), HQ.out, Int.add_zero])
              by_cases z1 : M = 0
              · subst z1
                go_wp2_with fail
                go_roundw
                case rel => exact ⟨j + 1, by omega, by go_num, by rw [HN.out], HBR.out⟩
                case measure => (simp [intOf] <;> omega)
              · have z1' : (M == 0) = false := by simp [z1]
                by_cases z2 : k - j < 0
                · go_wp2_with fail
                  go_roundw
                  case rel => exact ⟨j + 1, by omega, by go_num, by rw [HN.out], HBR.out⟩
                  case measure => (simp [intOf] <;> omega)
                · have z3 : k - j > c := by omega
                  go_wp2_with fail
                  go_roundw
                  case rel => exact ⟨j + 1, by omega, by go_num, by rw [HN.out], HBR.out⟩
                  case measure => (simp [intOf] <;> omega)
            · have HN : Hid (Pure.partsTo b d a c k (j + 1) = Q + M * Pure.ways (b - a) (d - j) c (k - j)) := Lib.hid (by
                show Pure.partsTo b d a c k j + Pure.partOf b d a c k j = _
                unfold Pure.partOf
                rw [if_neg (by rw [HM.out]; exact hz), HQ.out, HM.out])
              obtain ⟨hz1, hz2, hz3⟩ : ¬ M = 0 ∧ ¬ k - j < 0 ∧ ¬ c < k - j := by omega
              have hw := (Pure.ways_pos (b := b) (x := d) (o := a) (f := (j : Int)) (by omega) (by omega)).1 (by rw [HM.out]; omega)
              obtain ⟨O, hO⟩ : ∃ O, Pure.ways (b - a) (d - j) c (k - j) = O := ⟨_, rfl⟩
              rw [hO] at HN
              have o0 : 0 ≤ O := by rw [← hO]; exact Pure.ways_nonneg _ _ _ _
              have o1 : O ≤ G := by rw [← hO, ← hG.out]; exact Pure.ways_le_int (by omega) (by omega) (by omega) (by omega) (by omega)
              have HU : Hid (partV (Pure.ways (b - a) (d - j) c (k - j)) (Pure.sets (b - a) c) = .agg #[.int .i64 (O / Pure.gcd O G), .int .i64 (G / Pure.gcd O G)]) := Lib.hid (by rw [hO, hG.out])
              have HU2 : Hid (partV O G = .agg #[.int .i64 (O / Pure.gcd O G), .int .i64 (G / Pure.gcd O G)]) := Lib.hid rfl
              obtain ⟨rn, hrn⟩ : ∃ rn, O / Pure.gcd O G = rn := ⟨_, rfl⟩
              obtain ⟨rd, hrd⟩ : ∃ rd, G / Pure.gcd O G = rd := ⟨_, rfl⟩
              rw [hrn, hrd] at HU HU2
              have mo0 : 0 ≤ M * O := Int.mul_nonneg m0 o0
              have QMO : Q + M * O ≤ F * G := by
                rw [← HN.out, ← hF.out, ← hG.out]
                refine Int.le_trans (Pure.partsTo_mono b d a c k (n := ((a : Int) + 1).toNat) (by omega)) (Pure.parts_le (by omega) (by omega) (by omega) (by omega) (by omega) (by omega) (by omega))
              have hcr : Pure.okCargo (b - a) 0 (b - a) = true := by unfold Pure.okCargo; rw [decide_eq_true_eq]; omega
              have HCR := Lib.hid hcr
              have z1' : (M == 0) = false := by simp [hz1]
              have z3' : ¬ k - j > c := by omega
              clear hO hrn hrd hcr hz
              go_wp2_with fail
              have HK : Hid (∀ v : World, Below v3.heap.size v3 v → (v.cell? ⟨Bc, 0, none⟩ = some (.int .i64 b) ∧ v.cell? ⟨Bc, 1, none⟩ = some (.int .i64 0) ∧ v.cell? ⟨Bc, 2, none⟩ = some (.int .i64 b) ∧ Below v3.heap.size v3 v)) :=
                Lib.hid (fun v k => ⟨below_cell k (heap_cell HC.out (j := 0) rfl), below_cell k (heap_cell HC.out (j := 1) rfl), below_cell k (heap_cell HC.out (j := 2) rfl), k⟩)
              go_cut [27, 28] from 91 to 170 (fun s t wx => BoxAt wx s #[.int .i64 (b - a), .int .i64 0, .int .i64 (b - a)] 25 v3.heap.size ∧ t = .int .i64 0 ∧ Below v3.heap.size v3 wx)
              case first =>
                as_aux_lemma =>
                  go_region_held3 (fun v => v.cell? ⟨Bc, 0, none⟩ = some (.int .i64 b) ∧ v.cell? ⟨Bc, 1, none⟩ = some (.int .i64 0) ∧ v.cell? ⟨Bc, 2, none⟩ = some (.int .i64 b) ∧ Below v3.heap.size v3 v)
                    (first | exact HK.out _ (Below.refl _ _).drew | exact HK.out _ ((Below.refl _ _).alloc (Nat.le_refl _) _).drew | exact HK.out _ hqu1 | exact HK.out _ (Below.alloc hqu1 (Below.size hqu1) _) | exact HK.out _ (box_three hqu1 HZ.out _ _ _).2 | exact HK.out _ hqu0 | exact HK.out _ (Below.alloc hqu0 (Below.size hqu0) _) | exact HK.out _ (box_three hqu0 HZ.out _ _ _).2)
                    (first
                      | (go_at_call 26; refine (drawn_any _ _ _).mono ?_; rintro e u0 ⟨rfl, hbu0⟩; (first | (have hz := HZ.out.up hbu0; have z0 := hz.cell 0 rfl; have z1 := hz.cell 1 rfl; have z2 := hz.cell 2 rfl; have y0 := hz.free 0; have y1 := hz.free 1; have y2 := hz.free 2; have HZ := Lib.hid hz; clear hz) | (have hz := boxIn_drew hbu0; have z0 := hz.cell 0 rfl; have z1 := hz.cell 1 rfl; have z2 := hz.cell 2 rfl; have y0 := hz.free 0; have y1 := hz.free 1; have y2 := hz.free 2; have HZ := Lib.hid hz; clear hz) | (have hz := boxIn_new (n := v3.heap.size) hqu1.size hbu0; have z0 := hz.cell 0 rfl; have z1 := hz.cell 1 rfl; have z2 := hz.cell 2 rfl; have y0 := hz.free 0; have y1 := hz.free 1; have y2 := hz.free 2; have HZ := Lib.hid hz; clear hz) | (have hz := boxIn_new (n := v3.heap.size) hqu0.size hbu0; have z0 := hz.cell 0 rfl; have z1 := hz.cell 1 rfl; have z2 := hz.cell 2 rfl; have y0 := hz.free 0; have y1 := hz.free 1; have y2 := hz.free 2; have HZ := Lib.hid hz; clear hz) | skip); have hqu0 : Below v3.heap.size v3 u0 := below_then (And.right (And.right (And.right (by assumption)))) hbu0)
                      | (go_at_call 28; refine (restAll (show 1 ≤ b by omega) b2 (show 0 ≤ (a : Int) by omega) (by omega) (show 0 ≤ (j : Int) by omega) (by omega) _).mono ?_; rintro e u1 ⟨rfl, hbu1⟩; (first | (have hz := HZ.out.up hbu1; have z0 := hz.cell 0 rfl; have z1 := hz.cell 1 rfl; have z2 := hz.cell 2 rfl; have y0 := hz.free 0; have y1 := hz.free 1; have y2 := hz.free 2; have HZ := Lib.hid hz; clear hz) | (have hz := boxIn_drew hbu1; have z0 := hz.cell 0 rfl; have z1 := hz.cell 1 rfl; have z2 := hz.cell 2 rfl; have y0 := hz.free 0; have y1 := hz.free 1; have y2 := hz.free 2; have HZ := Lib.hid hz; clear hz) | (have hz := boxIn_new (n := v3.heap.size) hqu1.size hbu1; have z0 := hz.cell 0 rfl; have z1 := hz.cell 1 rfl; have z2 := hz.cell 2 rfl; have y0 := hz.free 0; have y1 := hz.free 1; have y2 := hz.free 2; have HZ := Lib.hid hz; clear hz) | (have hz := boxIn_new (n := v3.heap.size) hqu0.size hbu1; have z0 := hz.cell 0 rfl; have z1 := hz.cell 1 rfl; have z2 := hz.cell 2 rfl; have y0 := hz.free 0; have y1 := hz.free 1; have y2 := hz.free 2; have HZ := Lib.hid hz; clear hz) | skip); have hqu1 : Below v3.heap.size v3 u1 := below_then (And.right (And.right (And.right (by assumption)))) hbu1))
                  all_goals
                    go_wp2_with fail
                    go_meet
                    first | exact ⟨(box_last hqu1 _ _).1, rfl, (box_last hqu1 _ _).2⟩ | exact ⟨(box_three hqu1 HZ.out _ _ _).1, rfl, (box_three hqu1 HZ.out _ _ _).2⟩
              case rest =>
                obtain ⟨v4, rfl⟩ : ∃ x, x = wc := ⟨_, rfl⟩
                obtain ⟨⟨Br, rfl, hn', hh⟩, rfl, hbc⟩ := hcut
                replace HC := Lib.hid (heap_lift HC.out hbc)
                replace HBw := Lib.hid (heap_lift HBw.out hbc)
                replace HBR := Lib.hid (below_then HBR.out hbc)
                have HBr := Lib.hid hh
                clear hbc HK hn' hh
                go_wp2_with fail
                have HK : Hid (∀ v : World, Below v4.heap.size v4 v → (v.cell? ⟨Br, 0, none⟩ = some (.int .i64 (b - a)) ∧ v.cell? ⟨Br, 1, none⟩ = some (.int .i64 0) ∧ v.cell? ⟨Br, 2, none⟩ = some (.int .i64 (b - a)) ∧ Below v4.heap.size v4 v)) :=
                  Lib.hid (fun v k => ⟨below_cell k (heap_cell HBr.out (j := 0) rfl), below_cell k (heap_cell HBr.out (j := 1) rfl), below_cell k (heap_cell HBr.out (j := 2) rfl), k⟩)
                have t1 : IntKind.i64.wrap (d - j) = d - j := IntWalk.i64_in _ (by omega)
                have t2 : IntKind.i64.wrap (k - j) = k - j := IntWalk.i64_in _ (by omega)
                go_cut [29, 30] from 91 to 170 (fun s t wx => BoxAt wx s #[.int .i64 rn, .int .i64 rd] 31 v4.heap.size ∧ t = .int .i64 0 ∧ Below v4.heap.size v4 wx)
                case first =>
                  as_aux_lemma =>
                    go_region_held3 (fun v => v.cell? ⟨Br, 0, none⟩ = some (.int .i64 (b - a)) ∧ v.cell? ⟨Br, 1, none⟩ = some (.int .i64 0) ∧ v.cell? ⟨Br, 2, none⟩ = some (.int .i64 (b - a)) ∧ Below v4.heap.size v4 v)
                      (first | exact HK.out _ (Below.refl _ _).drew | exact HK.out _ ((Below.refl _ _).alloc (Nat.le_refl _) _).drew | exact HK.out _ hqu1 | exact HK.out _ (Below.alloc hqu1 (Below.size hqu1) _) | exact HK.out _ (box_two hqu1 HZ.out _ _).2 | exact HK.out _ hqu0 | exact HK.out _ (Below.alloc hqu0 (Below.size hqu0) _) | exact HK.out _ (box_two hqu0 HZ.out _ _).2)
                      (first
                        | (go_at_call 26; refine (drawn_any _ _ _).mono ?_; rintro e u0 ⟨rfl, hbu0⟩; (first | (have hz := HZ.out.up hbu0; have z0 := hz.cell 0 rfl; have z1 := hz.cell 1 rfl; have y0 := hz.free 0; have y1 := hz.free 1; have HZ := Lib.hid hz; clear hz) | (have hz := boxIn_drew hbu0; have z0 := hz.cell 0 rfl; have z1 := hz.cell 1 rfl; have y0 := hz.free 0; have y1 := hz.free 1; have HZ := Lib.hid hz; clear hz) | (have hz := boxIn_new (n := v4.heap.size) hqu1.size hbu0; have z0 := hz.cell 0 rfl; have z1 := hz.cell 1 rfl; have y0 := hz.free 0; have y1 := hz.free 1; have HZ := Lib.hid hz; clear hz) | (have hz := boxIn_new (n := v4.heap.size) hqu0.size hbu0; have z0 := hz.cell 0 rfl; have z1 := hz.cell 1 rfl; have y0 := hz.free 0; have y1 := hz.free 1; have HZ := Lib.hid hz; clear hz) | skip); have hqu0 : Below v4.heap.size v4 u0 := below_then (And.right (And.right (And.right (by assumption)))) hbu0)
                        | (go_at_call 27; refine (chanceV HCR.out (show 0 ≤ d - (j : Int) by omega) (by omega) c0' (by omega) (show 0 ≤ k - (j : Int) by omega) (by omega) HU _).mono ?_; rintro e u1 ⟨rfl, hbu1⟩; (first | (have hz := HZ.out.up hbu1; have z0 := hz.cell 0 rfl; have z1 := hz.cell 1 rfl; have y0 := hz.free 0; have y1 := hz.free 1; have HZ := Lib.hid hz; clear hz) | (have hz := boxIn_drew hbu1; have z0 := hz.cell 0 rfl; have z1 := hz.cell 1 rfl; have y0 := hz.free 0; have y1 := hz.free 1; have HZ := Lib.hid hz; clear hz) | (have hz := boxIn_new (n := v4.heap.size) hqu1.size hbu1; have z0 := hz.cell 0 rfl; have z1 := hz.cell 1 rfl; have y0 := hz.free 0; have y1 := hz.free 1; have HZ := Lib.hid hz; clear hz) | (have hz := boxIn_new (n := v4.heap.size) hqu0.size hbu1; have z0 := hz.cell 0 rfl; have z1 := hz.cell 1 rfl; have y0 := hz.free 0; have y1 := hz.free 1; have HZ := Lib.hid hz; clear hz) | skip); have hqu1 : Below v4.heap.size v4 u1 := below_then (And.right (And.right (And.right (by assumption)))) hbu1))
                    all_goals
                      go_wp2_with fail
                      go_meet
                      first | exact ⟨(box_last hqu1 _ _).1, rfl, (box_last hqu1 _ _).2⟩ | exact ⟨(box_two hqu1 HZ.out _ _).1, rfl, (box_two hqu1 HZ.out _ _).2⟩
                case rest =>
                  obtain ⟨v5, rfl⟩ : ∃ x, x = wc := ⟨_, rfl⟩
                  obtain ⟨⟨Bo, rfl, hn', hh⟩, rfl, hbc⟩ := hcut
                  replace HC := Lib.hid (heap_lift HC.out hbc)
                  replace HBw := Lib.hid (heap_lift HBw.out hbc)
                  replace HBR := Lib.hid (below_then HBR.out hbc)
                  have HBo := Lib.hid hh
                  clear hbc HK hn' hh
                  have z0 := heap_cell HBo.out (j := 0) rfl
                  have z1 := heap_cell HBo.out (j := 1) rfl
                  clear t1 t2 HBr
                  go_wp2_with fail
                  refine (overOk o0 o1 G0 G1 HU2 _).mono ?_
                  rintro e v6 ⟨rfl, hb3⟩
                  replace HC := Lib.hid (heap_lift HC.out hb3)
                  replace HBw := Lib.hid (heap_lift HBw.out hb3)
                  replace HBR := Lib.hid (below_then HBR.out hb3)
                  clear hb3 z0 z1 HBo
                  go_wp2_with fail
                  go_roundw
                  case rel => exact ⟨j + 1, by omega, by go_num, by rw [HN.out], HBR.out⟩
                  case measure => (simp [intOf] <;> omega)
        · obtain rfl : j = a + 1 := by omega
          have HT : Hid (Q * Pure.sets b (a + c) = Pure.ways b d (a + c) k * (F * G)) := Lib.hid (by
            rw [← HQ.out, ← hF.out, ← hG.out]
            have h := Pure.parts_all (b := b) (d := d) (a := a) (c := c) (k := k) (by omega) (by omega) (by omega) (by omega) (by omega)
            rwa [show ((a : Int) + 1).toNat = a + 1 by omega] at h)
          have fg0 : 0 < F * G := Int.mul_pos F0 G0
          have HV3 : Hid (partV Q (F * G) = .agg #[.int .i64 wn, .int .i64 wd]) := Lib.hid (by
            rw [← hW.out]
            exact part_alike Q0 fg0 (Pure.ways_nonneg _ _ _ _) (Pure.sets_pos (by omega) (by omega)) HT.out)
          clear HQ
          go_wp2_with fail
          have HK : Hid (∀ v : World, Below wr.heap.size wr v → (v.cell? ⟨Bw, 0, none⟩ = some (.int .i64 wn) ∧ v.cell? ⟨Bw, 1, none⟩ = some (.int .i64 wd) ∧ Below wr.heap.size wr v)) :=
            Lib.hid (fun v k => ⟨below_cell k (heap_cell HBw.out (j := 0) rfl), below_cell k (heap_cell HBw.out (j := 1) rfl), k⟩)
          have t1 : IntKind.i64.wrap (F * G) = F * G := IntWalk.i64_in _ (by omega)
          go_region_held3 (fun v => v.cell? ⟨Bw, 0, none⟩ = some (.int .i64 wn) ∧ v.cell? ⟨Bw, 1, none⟩ = some (.int .i64 wd) ∧ Below wr.heap.size wr v)
            (first | exact HK.out _ (Below.refl _ _).drew | with_reducible exact HK.out _ hqu1)
            (first
              | (go_at_call 37; with_reducible refine (leastV Q0 (by omega) fg0 (by omega) HV3 _).mono ?_; rintro e u1 ⟨rfl, hbu1⟩; have hqu1 : Below wr.heap.size wr u1 := below_then (And.right (And.right (by assumption))) hbu1))
          all_goals
            go_wp2_with fail
            go_ret
            exact ⟨rfl, below_then HB.out (below_then HBR.out hqu1)⟩

/-- The walk of SampleParts. -/
theorem parts_walk (q0 q1 q2 q3 q4 : Int) (q00 : 0 ≤ q0) (q01 : q0 ≤ 255) (q10 : 0 ≤ q1) (q11 : q1 ≤ 255) (q20 : 0 ≤ q2) (q21 : q2 ≤ 255) (q30 : 0 ≤ q3) (q31 : q3 ≤ 255) (q40 : 0 ≤ q4) (q41 : q4 ≤ 255) (w : World) :
    Calls Try.prog 7 #[.int .u8 q0, .int .u8 q1, .int .u8 q2, .int .u8 q3, .int .u8 q4] w fun e w' => e = .returned (.bool true) ∧ Below w.heap.size w w' := by
  obtain ⟨b, hb⟩ : ∃ b, 2 + q0 % 35 = b := ⟨_, rfl⟩
  have b1 : 2 ≤ b := by omega
  have b2 : b ≤ 36 := by omega
  have e0 : 0 ≤ q1 % (b + 1) := Int.emod_nonneg _ (by omega)
  have e1 : q1 % (b + 1) < b + 1 := Int.emod_lt_of_pos _ (by omega)
  have e2 : 0 ≤ q2 % b := Int.emod_nonneg _ (by omega)
  have e3 : q2 % b < b := Int.emod_lt_of_pos _ (by omega)
  obtain ⟨a, ha⟩ : ∃ a : Nat, q2 % b = a := ⟨(q2 % b).toNat, by omega⟩
  obtain ⟨d, hd⟩ : ∃ d, q1 % (b + 1) = d := ⟨_, rfl⟩
  rw [ha] at e2 e3
  rw [hd] at e0 e1
  have e4 : 0 ≤ q3 % (b - a + 1) := Int.emod_nonneg _ (by omega)
  have e5 : q3 % (b - a + 1) < b - a + 1 := Int.emod_lt_of_pos _ (by omega)
  obtain ⟨c, hc⟩ : ∃ c, q3 % (b - a + 1) = c := ⟨_, rfl⟩
  rw [hc] at e4 e5
  have e6 : 0 ≤ q4 % (a + c + 1) := Int.emod_nonneg _ (by omega)
  have e7 : q4 % (a + c + 1) < a + c + 1 := Int.emod_lt_of_pos _ (by omega)
  obtain ⟨k, hk⟩ : ∃ k, q4 % (a + c + 1) = k := ⟨_, rfl⟩
  rw [hk] at e6 e7
  exact parts_good q0 q1 q2 q3 q4 b d c k _ _ _ _ a q00 q01 q10 q11 q20 q21 q30 q31 q40 q41 (Lib.hid hb) (Lib.hid hd) (Lib.hid ha) (Lib.hid hc) (Lib.hid hk) (Lib.hid (by unfold Pure.okCargo; rw [decide_eq_true_eq]; omega)) b1 b2 e0 (by omega) e3 e4 (by omega) e6 (by omega)
    (Lib.hid rfl) (Lib.hid rfl) (Pure.sets_pos (by omega) (by omega)) (Pure.sets_le b2) (Pure.sets_pos (by omega) (by omega)) (Pure.sets_le (by omega)) (Pure.two_sets (by omega) b2 (by omega) (by omega)) (Lib.hid rfl) w

end Go.Proofs.Ytiiecehmldipmaa
