/-
  SampleSwap returns true for every input: the statement itself takes each number into its span. There is no condition.
  SampleSwap: the walk of the law.
-/
import Derived.Test.YtnldipniaphmgaaAlive
import Derived.Test.YtnldipniaphmgaaTri
import Derived.Test.YtnldipniaphmgaaOpen

namespace Go.Proofs.Ytnldipniaphmgaa
open Go.RowKit Go.Shelf

namespace Pure
theorem codes_zero {b d o k : Int} (b1 : 1 ≤ b) (b2 : b ≤ 36) (d0 : 0 ≤ d) (d1 : d ≤ b) (o0 : 0 ≤ o) (o1 : o ≤ b) (k0 : 0 ≤ k) (k1 : k ≤ o) : first3 (err (okCargo b 0 b) 10) (err (okDraw b o k) 11) (err (okIn 0 b d) 2) = 0 := by
  have h1 : okCargo b 0 b = true := by unfold okCargo; rw [decide_eq_true_eq]; omega
  have h2 : okDraw b o k = true := by unfold okDraw; rw [decide_eq_true_eq]; omega
  have h3 : okIn 0 b d = true := by unfold okIn; rw [decide_eq_true_eq]; omega
  rw [h1, h2, h3]
  rfl
end Pure
/-- The chance of a draw, in lowest terms. -/
theorem chanceOk {b d o k pn pd : Int} (b1 : 1 ≤ b) (b2 : b ≤ 36) (d0 : 0 ≤ d) (d1 : d ≤ b) (o0 : 0 ≤ o) (o1 : o ≤ b) (k0 : 0 ≤ k) (k1 : k ≤ o) (h : Hid (partV (Pure.ways b d o k) (Pure.sets b o) = .agg #[.int .i64 pn, .int .i64 pd])) (w : World) :
    Calls Try.prog 29 #[cargoV b 0 b, .int .i64 d, .agg #[.int .i64 o, .int .i64 k]] w fun e w' => e = .returned (.tuple #[.agg #[.int .i64 pn, .int .i64 pd], .int .i64 0]) ∧ Below w.heap.size w w' :=
  (chance_any b 0 b d o k w).mono fun _ _ g => ⟨g.1.trans (by rw [Pure.res2_zero (Pure.codes_zero b1 b2 d0 d1 o0 o1 k0 k1), h.out]), g.2⟩
theorem atMostOk {b d o k pn pd : Int} (b1 : 1 ≤ b) (b2 : b ≤ 36) (d0 : 0 ≤ d) (d1 : d ≤ b) (o0 : 0 ≤ o) (o1 : o ≤ b) (k0 : 0 ≤ k) (k1 : k ≤ o) (h : Hid (partV (Pure.few b d o k) (Pure.sets b o) = .agg #[.int .i64 pn, .int .i64 pd])) (w : World) :
    Calls Try.prog 31 #[cargoV b 0 b, .int .i64 d, .agg #[.int .i64 o, .int .i64 k]] w fun e w' => e = .returned (.tuple #[.agg #[.int .i64 pn, .int .i64 pd], .int .i64 0]) ∧ Below w.heap.size w w' :=
  (atMost_any b 0 b d o k w).mono fun _ _ g => ⟨g.1.trans (by rw [Pure.res2_zero (Pure.codes_zero b1 b2 d0 d1 o0 o1 k0 k1), h.out]), g.2⟩
theorem below_draws (w : World) : ∀ n : Nat, Below w.heap.size w (w.drewN n) := fun _ => ⟨rfl, rfl, rfl, Nat.le_refl _, fun _ _ => rfl⟩
theorem part_same {a b c d : Int} (ha : 0 ≤ a) (hb : 0 < b) (hc : 0 ≤ c) (hd : 0 < d) (h : a * d = c * b) : partV a b = partV c d := by
  obtain ⟨h1, h2⟩ := Pure.low_same ha hb hc hd h
  show Value.agg #[.int .i64 _, .int .i64 _] = .agg #[.int .i64 _, .int .i64 _]
  rw [h1, h2]

set_option maxHeartbeats 16000000 in
set_option maxRecDepth 100000 in
theorem swap_case (n dirty opened found b d o k pn pd qn qd : Int) (hb : Hid (1 + n % 36 = b)) (hd : Hid (dirty % (b + 1) = d)) (ho : Hid (opened % (b + 1) = o)) (hk : Hid (found % (min d o + 1) = k))
    (n0 : 0 ≤ n) (n1 : n ≤ 255) (y0 : 0 ≤ dirty) (y1 : dirty ≤ 255) (z0 : 0 ≤ opened) (z1 : opened ≤ 255) (f0 : 0 ≤ found) (f1 : found ≤ 255)
    (b1 : 1 ≤ b) (b2 : b ≤ 36) (d0 : 0 ≤ d) (d1 : d ≤ b) (o0 : 0 ≤ o) (o1 : o ≤ b) (k0 : 0 ≤ k) (kd : k ≤ d) (ko : k ≤ o)
    (h1 : Hid (partV (Pure.ways b d o k) (Pure.sets b o) = .agg #[.int .i64 pn, .int .i64 pd])) (h2 : Hid (partV (Pure.ways b o d k) (Pure.sets b d) = .agg #[.int .i64 pn, .int .i64 pd]))
    (h3 : Hid (partV (Pure.few b d o k) (Pure.sets b o) = .agg #[.int .i64 qn, .int .i64 qd])) (h4 : Hid (partV (Pure.few b o d k) (Pure.sets b d) = .agg #[.int .i64 qn, .int .i64 qd])) (w : World) :
    Calls Try.prog 5 #[.int .u8 n, .int .u8 dirty, .int .u8 opened, .int .u8 found] w fun e w' => e = .returned (.bool true) ∧ Below w.heap.size w w' := by
  go_enter Try.func5, Try.ntmps5
  go_wp2_with fail
  refine (alive_any _).mono ?_
  rintro e w1 ⟨rfl, hb1⟩
  go_wp2_with fail
  rw [hb.out]
  refine (bags_any _ _).mono ?_
  rintro e w2 ⟨rfl, hb2⟩
  have hc : (w2.alloc (.cells #[.int .i64 b, .int .i64 0, .int .i64 b] 25)).heap[w2.heap.size]? = some (.cells #[.int .i64 b, .int .i64 0, .int .i64 b] 25) := heap_top w2 _ rfl
  have hbb := (below_then hb1 hb2).alloc (below_then hb1 hb2).size (.cells #[.int .i64 b, .int .i64 0, .int .i64 b] 25)
  obtain ⟨Bc, hBc⟩ : ∃ Bc, w2.heap.size = Bc := ⟨_, rfl⟩
  obtain ⟨w3, hw3⟩ : ∃ w3, w2.alloc (.cells #[.int .i64 b, .int .i64 0, .int .i64 b] 25) = w3 := ⟨_, rfl⟩
  rw [hBc, hw3] at hc
  rw [hw3] at hbb
  have HC := Lib.hid hc
  have HB := Lib.hid hbb
  have c0 := heap_cell hc (j := 0) rfl
  clear hb1 hb2 hc hbb
  go_wp2_with fail
  clear hBc hw3
  have e1 : (0 : Int) < b + 1 := by omega
  go_cut [11, 12] (fun s11 s12 wx => s11 = .int .i64 (dirty % (b + 1)) ∧ s12 = .int .i64 (opened % (b + 1)) ∧ Below w3.heap.size w3 wx)
  case first =>
    go_quiet (fail)
    go_wp2_with fail
    go_meet
    exact ⟨rfl, rfl, below_draws _ _⟩
  case rest =>
    obtain ⟨w4, rfl⟩ : ∃ x, x = wc := ⟨_, rfl⟩
    obtain ⟨rfl, rfl, hbc⟩ := hcut
    rw [hd.out, ho.out]
    replace HC := Lib.hid (heap_lift HC.out hbc)
    replace HB := Lib.hid (HB.out.trans (hbc.mono HB.out.size))
    clear hbc c0 e1
    go_upto_region 4 with fail
    go_cut [13] (fun s13 wx => s13 = .int .i64 k ∧ Below w4.heap.size w4 wx)
    case first =>
      go_wp2_with fail
      all_goals
        go_meet
        refine ⟨?_, Below.refl _ _⟩
        first | (rw [← hk.out, Int.min_eq_left (by omega)]; done) | (rw [← hk.out, Int.min_eq_right (by omega)]; done)
    case rest =>
      obtain ⟨w5, rfl⟩ : ∃ x, x = wc := ⟨_, rfl⟩
      obtain ⟨rfl, hbc⟩ := hcut
      replace HC := Lib.hid (heap_lift HC.out hbc)
      replace HB := Lib.hid (HB.out.trans (hbc.mono HB.out.size))
      clear hbc
      go_wp2_with fail
      have HK : Hid (∀ v : World, Below w5.heap.size w5 v → (v.cell? ⟨Bc, 0, none⟩ = some (.int .i64 b) ∧ v.cell? ⟨Bc, 1, none⟩ = some (.int .i64 0) ∧ v.cell? ⟨Bc, 2, none⟩ = some (.int .i64 b) ∧ Below w5.heap.size w5 v)) :=
        Lib.hid (fun v k => ⟨below_cell k (heap_cell HC.out (j := 0) rfl), below_cell k (heap_cell HC.out (j := 1) rfl), below_cell k (heap_cell HC.out (j := 2) rfl), k⟩)
      go_cut [14, 15] (fun s t wx => BoxAt wx s #[.int .i64 pn, .int .i64 pd] 31 w5.heap.size ∧ t = .int .i64 0 ∧ Below w5.heap.size w5 wx)
      case first =>
        as_aux_lemma =>
          go_region_held3 (fun v => v.cell? ⟨Bc, 0, none⟩ = some (.int .i64 b) ∧ v.cell? ⟨Bc, 1, none⟩ = some (.int .i64 0) ∧ v.cell? ⟨Bc, 2, none⟩ = some (.int .i64 b) ∧ Below w5.heap.size w5 v)
            (first | exact HK.out _ (Below.refl _ _).drew | exact HK.out _ ((Below.refl _ _).alloc (Nat.le_refl _) _).drew | exact HK.out _ hqu1 | exact HK.out _ (Below.alloc hqu1 (Below.size hqu1) _) | exact HK.out _ (box_two hqu1 HZ.out _ _).2 | exact HK.out _ hqu0 | exact HK.out _ (Below.alloc hqu0 (Below.size hqu0) _) | exact HK.out _ (box_two hqu0 HZ.out _ _).2)
            (first
              | (go_at_call 30; refine (drawn_any _ _ _).mono ?_; rintro e u0 ⟨rfl, hbu0⟩; (first | (have hz := HZ.out.up hbu0; have z0 := hz.cell 0 rfl; have z1 := hz.cell 1 rfl; have y0 := hz.free 0; have y1 := hz.free 1; have HZ := Lib.hid hz; clear hz) | (have hz := boxIn_drew hbu0; have z0 := hz.cell 0 rfl; have z1 := hz.cell 1 rfl; have y0 := hz.free 0; have y1 := hz.free 1; have HZ := Lib.hid hz; clear hz) | (have hz := boxIn_new (n := w5.heap.size) hqu1.size hbu0; have z0 := hz.cell 0 rfl; have z1 := hz.cell 1 rfl; have y0 := hz.free 0; have y1 := hz.free 1; have HZ := Lib.hid hz; clear hz) | (have hz := boxIn_new (n := w5.heap.size) hqu0.size hbu0; have z0 := hz.cell 0 rfl; have z1 := hz.cell 1 rfl; have y0 := hz.free 0; have y1 := hz.free 1; have HZ := Lib.hid hz; clear hz) | skip); have hqu0 : Below w5.heap.size w5 u0 := below_then (And.right (And.right (And.right (by assumption)))) hbu0)
              | (go_at_call 29; refine (chanceOk b1 b2 d0 d1 o0 o1 k0 ko h1 _).mono ?_; rintro e u1 ⟨rfl, hbu1⟩; (first | (have hz := HZ.out.up hbu1; have z0 := hz.cell 0 rfl; have z1 := hz.cell 1 rfl; have y0 := hz.free 0; have y1 := hz.free 1; have HZ := Lib.hid hz; clear hz) | (have hz := boxIn_drew hbu1; have z0 := hz.cell 0 rfl; have z1 := hz.cell 1 rfl; have y0 := hz.free 0; have y1 := hz.free 1; have HZ := Lib.hid hz; clear hz) | (have hz := boxIn_new (n := w5.heap.size) hqu1.size hbu1; have z0 := hz.cell 0 rfl; have z1 := hz.cell 1 rfl; have y0 := hz.free 0; have y1 := hz.free 1; have HZ := Lib.hid hz; clear hz) | (have hz := boxIn_new (n := w5.heap.size) hqu0.size hbu1; have z0 := hz.cell 0 rfl; have z1 := hz.cell 1 rfl; have y0 := hz.free 0; have y1 := hz.free 1; have HZ := Lib.hid hz; clear hz) | skip); have hqu1 : Below w5.heap.size w5 u1 := below_then (And.right (And.right (And.right (by assumption)))) hbu1))
          all_goals
            go_wp2_with fail
            go_meet
            first | exact ⟨(box_last hqu1 _ _).1, rfl, (box_last hqu1 _ _).2⟩ | exact ⟨(box_two hqu1 HZ.out _ _).1, rfl, (box_two hqu1 HZ.out _ _).2⟩
      case rest =>
        obtain ⟨v0, rfl⟩ : ∃ x, x = wc := ⟨_, rfl⟩
        obtain ⟨⟨Bp, rfl, hn, hh⟩, rfl, hbc⟩ := hcut
        replace HC := Lib.hid (heap_lift HC.out hbc)
        replace HB := Lib.hid (HB.out.trans (hbc.mono HB.out.size))
        have HBp := Lib.hid hh
        clear hbc HK hn hh
        go_wp2_with fail
        have HK : Hid (∀ v : World, Below v0.heap.size v0 v → (v.cell? ⟨Bc, 0, none⟩ = some (.int .i64 b) ∧ v.cell? ⟨Bc, 1, none⟩ = some (.int .i64 0) ∧ v.cell? ⟨Bc, 2, none⟩ = some (.int .i64 b) ∧ Below v0.heap.size v0 v)) :=
          Lib.hid (fun v k => ⟨below_cell k (heap_cell HC.out (j := 0) rfl), below_cell k (heap_cell HC.out (j := 1) rfl), below_cell k (heap_cell HC.out (j := 2) rfl), k⟩)
        go_cut [16, 17] (fun s t wx => BoxAt wx s #[.int .i64 pn, .int .i64 pd] 31 v0.heap.size ∧ t = .int .i64 0 ∧ Below v0.heap.size v0 wx)
        case first =>
          as_aux_lemma =>
            go_region_held3 (fun v => v.cell? ⟨Bc, 0, none⟩ = some (.int .i64 b) ∧ v.cell? ⟨Bc, 1, none⟩ = some (.int .i64 0) ∧ v.cell? ⟨Bc, 2, none⟩ = some (.int .i64 b) ∧ Below v0.heap.size v0 v)
              (first | exact HK.out _ (Below.refl _ _).drew | exact HK.out _ ((Below.refl _ _).alloc (Nat.le_refl _) _).drew | exact HK.out _ hqu1 | exact HK.out _ (Below.alloc hqu1 (Below.size hqu1) _) | exact HK.out _ (box_two hqu1 HZ.out _ _).2 | exact HK.out _ hqu0 | exact HK.out _ (Below.alloc hqu0 (Below.size hqu0) _) | exact HK.out _ (box_two hqu0 HZ.out _ _).2)
              (first
                | (go_at_call 30; refine (drawn_any _ _ _).mono ?_; rintro e u0 ⟨rfl, hbu0⟩; (first | (have hz := HZ.out.up hbu0; have z0 := hz.cell 0 rfl; have z1 := hz.cell 1 rfl; have y0 := hz.free 0; have y1 := hz.free 1; have HZ := Lib.hid hz; clear hz) | (have hz := boxIn_drew hbu0; have z0 := hz.cell 0 rfl; have z1 := hz.cell 1 rfl; have y0 := hz.free 0; have y1 := hz.free 1; have HZ := Lib.hid hz; clear hz) | (have hz := boxIn_new (n := v0.heap.size) hqu1.size hbu0; have z0 := hz.cell 0 rfl; have z1 := hz.cell 1 rfl; have y0 := hz.free 0; have y1 := hz.free 1; have HZ := Lib.hid hz; clear hz) | (have hz := boxIn_new (n := v0.heap.size) hqu0.size hbu0; have z0 := hz.cell 0 rfl; have z1 := hz.cell 1 rfl; have y0 := hz.free 0; have y1 := hz.free 1; have HZ := Lib.hid hz; clear hz) | skip); have hqu0 : Below v0.heap.size v0 u0 := below_then (And.right (And.right (And.right (by assumption)))) hbu0)
                | (go_at_call 29; refine (chanceOk b1 b2 o0 o1 d0 d1 k0 kd h2 _).mono ?_; rintro e u1 ⟨rfl, hbu1⟩; (first | (have hz := HZ.out.up hbu1; have z0 := hz.cell 0 rfl; have z1 := hz.cell 1 rfl; have y0 := hz.free 0; have y1 := hz.free 1; have HZ := Lib.hid hz; clear hz) | (have hz := boxIn_drew hbu1; have z0 := hz.cell 0 rfl; have z1 := hz.cell 1 rfl; have y0 := hz.free 0; have y1 := hz.free 1; have HZ := Lib.hid hz; clear hz) | (have hz := boxIn_new (n := v0.heap.size) hqu1.size hbu1; have z0 := hz.cell 0 rfl; have z1 := hz.cell 1 rfl; have y0 := hz.free 0; have y1 := hz.free 1; have HZ := Lib.hid hz; clear hz) | (have hz := boxIn_new (n := v0.heap.size) hqu0.size hbu1; have z0 := hz.cell 0 rfl; have z1 := hz.cell 1 rfl; have y0 := hz.free 0; have y1 := hz.free 1; have HZ := Lib.hid hz; clear hz) | skip); have hqu1 : Below v0.heap.size v0 u1 := below_then (And.right (And.right (And.right (by assumption)))) hbu1))
            all_goals
              go_wp2_with fail
              go_meet
              first | exact ⟨(box_last hqu1 _ _).1, rfl, (box_last hqu1 _ _).2⟩ | exact ⟨(box_two hqu1 HZ.out _ _).1, rfl, (box_two hqu1 HZ.out _ _).2⟩
        case rest =>
          obtain ⟨v1, rfl⟩ : ∃ x, x = wc := ⟨_, rfl⟩
          obtain ⟨⟨Bq, rfl, hn, hh⟩, rfl, hbc⟩ := hcut
          replace HC := Lib.hid (heap_lift HC.out hbc)
          replace HBp := Lib.hid (heap_lift HBp.out hbc)
          replace HB := Lib.hid (HB.out.trans (hbc.mono HB.out.size))
          have HBq := Lib.hid hh
          clear hbc HK hn hh
          go_wp2_with fail
          have HK : Hid (∀ v : World, Below v1.heap.size v1 v → (v.cell? ⟨Bc, 0, none⟩ = some (.int .i64 b) ∧ v.cell? ⟨Bc, 1, none⟩ = some (.int .i64 0) ∧ v.cell? ⟨Bc, 2, none⟩ = some (.int .i64 b) ∧ Below v1.heap.size v1 v)) :=
            Lib.hid (fun v k => ⟨below_cell k (heap_cell HC.out (j := 0) rfl), below_cell k (heap_cell HC.out (j := 1) rfl), below_cell k (heap_cell HC.out (j := 2) rfl), k⟩)
          go_cut [18, 19] (fun s t wx => BoxAt wx s #[.int .i64 qn, .int .i64 qd] 31 v1.heap.size ∧ t = .int .i64 0 ∧ Below v1.heap.size v1 wx)
          case first =>
            as_aux_lemma =>
              go_region_held3 (fun v => v.cell? ⟨Bc, 0, none⟩ = some (.int .i64 b) ∧ v.cell? ⟨Bc, 1, none⟩ = some (.int .i64 0) ∧ v.cell? ⟨Bc, 2, none⟩ = some (.int .i64 b) ∧ Below v1.heap.size v1 v)
                (first | exact HK.out _ (Below.refl _ _).drew | exact HK.out _ ((Below.refl _ _).alloc (Nat.le_refl _) _).drew | exact HK.out _ hqu1 | exact HK.out _ (Below.alloc hqu1 (Below.size hqu1) _) | exact HK.out _ (box_two hqu1 HZ.out _ _).2 | exact HK.out _ hqu0 | exact HK.out _ (Below.alloc hqu0 (Below.size hqu0) _) | exact HK.out _ (box_two hqu0 HZ.out _ _).2)
                (first
                  | (go_at_call 30; refine (drawn_any _ _ _).mono ?_; rintro e u0 ⟨rfl, hbu0⟩; (first | (have hz := HZ.out.up hbu0; have z0 := hz.cell 0 rfl; have z1 := hz.cell 1 rfl; have y0 := hz.free 0; have y1 := hz.free 1; have HZ := Lib.hid hz; clear hz) | (have hz := boxIn_drew hbu0; have z0 := hz.cell 0 rfl; have z1 := hz.cell 1 rfl; have y0 := hz.free 0; have y1 := hz.free 1; have HZ := Lib.hid hz; clear hz) | (have hz := boxIn_new (n := v1.heap.size) hqu1.size hbu0; have z0 := hz.cell 0 rfl; have z1 := hz.cell 1 rfl; have y0 := hz.free 0; have y1 := hz.free 1; have HZ := Lib.hid hz; clear hz) | (have hz := boxIn_new (n := v1.heap.size) hqu0.size hbu0; have z0 := hz.cell 0 rfl; have z1 := hz.cell 1 rfl; have y0 := hz.free 0; have y1 := hz.free 1; have HZ := Lib.hid hz; clear hz) | skip); have hqu0 : Below v1.heap.size v1 u0 := below_then (And.right (And.right (And.right (by assumption)))) hbu0)
                  | (go_at_call 31; refine (atMostOk b1 b2 d0 d1 o0 o1 k0 ko h3 _).mono ?_; rintro e u1 ⟨rfl, hbu1⟩; (first | (have hz := HZ.out.up hbu1; have z0 := hz.cell 0 rfl; have z1 := hz.cell 1 rfl; have y0 := hz.free 0; have y1 := hz.free 1; have HZ := Lib.hid hz; clear hz) | (have hz := boxIn_drew hbu1; have z0 := hz.cell 0 rfl; have z1 := hz.cell 1 rfl; have y0 := hz.free 0; have y1 := hz.free 1; have HZ := Lib.hid hz; clear hz) | (have hz := boxIn_new (n := v1.heap.size) hqu1.size hbu1; have z0 := hz.cell 0 rfl; have z1 := hz.cell 1 rfl; have y0 := hz.free 0; have y1 := hz.free 1; have HZ := Lib.hid hz; clear hz) | (have hz := boxIn_new (n := v1.heap.size) hqu0.size hbu1; have z0 := hz.cell 0 rfl; have z1 := hz.cell 1 rfl; have y0 := hz.free 0; have y1 := hz.free 1; have HZ := Lib.hid hz; clear hz) | skip); have hqu1 : Below v1.heap.size v1 u1 := below_then (And.right (And.right (And.right (by assumption)))) hbu1))
              all_goals
                go_wp2_with fail
                go_meet
                first | exact ⟨(box_last hqu1 _ _).1, rfl, (box_last hqu1 _ _).2⟩ | exact ⟨(box_two hqu1 HZ.out _ _).1, rfl, (box_two hqu1 HZ.out _ _).2⟩
          case rest =>
            obtain ⟨v2, rfl⟩ : ∃ x, x = wc := ⟨_, rfl⟩
            obtain ⟨⟨Ba, rfl, hn, hh⟩, rfl, hbc⟩ := hcut
            replace HC := Lib.hid (heap_lift HC.out hbc)
            replace HBp := Lib.hid (heap_lift HBp.out hbc)
            replace HBq := Lib.hid (heap_lift HBq.out hbc)
            replace HB := Lib.hid (HB.out.trans (hbc.mono HB.out.size))
            have HBa := Lib.hid hh
            clear hbc HK hn hh
            go_wp2_with fail
            have HK : Hid (∀ v : World, Below v2.heap.size v2 v → (v.cell? ⟨Bc, 0, none⟩ = some (.int .i64 b) ∧ v.cell? ⟨Bc, 1, none⟩ = some (.int .i64 0) ∧ v.cell? ⟨Bc, 2, none⟩ = some (.int .i64 b) ∧ Below v2.heap.size v2 v)) :=
              Lib.hid (fun v k => ⟨below_cell k (heap_cell HC.out (j := 0) rfl), below_cell k (heap_cell HC.out (j := 1) rfl), below_cell k (heap_cell HC.out (j := 2) rfl), k⟩)
            go_cut [20, 21] (fun s t wx => BoxAt wx s #[.int .i64 qn, .int .i64 qd] 31 v2.heap.size ∧ t = .int .i64 0 ∧ Below v2.heap.size v2 wx)
            case first =>
              as_aux_lemma =>
                go_region_held3 (fun v => v.cell? ⟨Bc, 0, none⟩ = some (.int .i64 b) ∧ v.cell? ⟨Bc, 1, none⟩ = some (.int .i64 0) ∧ v.cell? ⟨Bc, 2, none⟩ = some (.int .i64 b) ∧ Below v2.heap.size v2 v)
                  (first | exact HK.out _ (Below.refl _ _).drew | exact HK.out _ ((Below.refl _ _).alloc (Nat.le_refl _) _).drew | exact HK.out _ hqu1 | exact HK.out _ (Below.alloc hqu1 (Below.size hqu1) _) | exact HK.out _ (box_two hqu1 HZ.out _ _).2 | exact HK.out _ hqu0 | exact HK.out _ (Below.alloc hqu0 (Below.size hqu0) _) | exact HK.out _ (box_two hqu0 HZ.out _ _).2)
                  (first
                    | (go_at_call 30; refine (drawn_any _ _ _).mono ?_; rintro e u0 ⟨rfl, hbu0⟩; (first | (have hz := HZ.out.up hbu0; have z0 := hz.cell 0 rfl; have z1 := hz.cell 1 rfl; have y0 := hz.free 0; have y1 := hz.free 1; have HZ := Lib.hid hz; clear hz) | (have hz := boxIn_drew hbu0; have z0 := hz.cell 0 rfl; have z1 := hz.cell 1 rfl; have y0 := hz.free 0; have y1 := hz.free 1; have HZ := Lib.hid hz; clear hz) | (have hz := boxIn_new (n := v2.heap.size) hqu1.size hbu0; have z0 := hz.cell 0 rfl; have z1 := hz.cell 1 rfl; have y0 := hz.free 0; have y1 := hz.free 1; have HZ := Lib.hid hz; clear hz) | (have hz := boxIn_new (n := v2.heap.size) hqu0.size hbu0; have z0 := hz.cell 0 rfl; have z1 := hz.cell 1 rfl; have y0 := hz.free 0; have y1 := hz.free 1; have HZ := Lib.hid hz; clear hz) | skip); have hqu0 : Below v2.heap.size v2 u0 := below_then (And.right (And.right (And.right (by assumption)))) hbu0)
                    | (go_at_call 31; refine (atMostOk b1 b2 o0 o1 d0 d1 k0 kd h4 _).mono ?_; rintro e u1 ⟨rfl, hbu1⟩; (first | (have hz := HZ.out.up hbu1; have z0 := hz.cell 0 rfl; have z1 := hz.cell 1 rfl; have y0 := hz.free 0; have y1 := hz.free 1; have HZ := Lib.hid hz; clear hz) | (have hz := boxIn_drew hbu1; have z0 := hz.cell 0 rfl; have z1 := hz.cell 1 rfl; have y0 := hz.free 0; have y1 := hz.free 1; have HZ := Lib.hid hz; clear hz) | (have hz := boxIn_new (n := v2.heap.size) hqu1.size hbu1; have z0 := hz.cell 0 rfl; have z1 := hz.cell 1 rfl; have y0 := hz.free 0; have y1 := hz.free 1; have HZ := Lib.hid hz; clear hz) | (have hz := boxIn_new (n := v2.heap.size) hqu0.size hbu1; have z0 := hz.cell 0 rfl; have z1 := hz.cell 1 rfl; have y0 := hz.free 0; have y1 := hz.free 1; have HZ := Lib.hid hz; clear hz) | skip); have hqu1 : Below v2.heap.size v2 u1 := below_then (And.right (And.right (And.right (by assumption)))) hbu1))
                all_goals
                  go_wp2_with fail
                  go_meet
                  first | exact ⟨(box_last hqu1 _ _).1, rfl, (box_last hqu1 _ _).2⟩ | exact ⟨(box_two hqu1 HZ.out _ _).1, rfl, (box_two hqu1 HZ.out _ _).2⟩
            case rest =>
              obtain ⟨v3, rfl⟩ : ∃ x, x = wc := ⟨_, rfl⟩
              obtain ⟨⟨Be, rfl, hn, hh⟩, rfl, hbc⟩ := hcut
              replace HC := Lib.hid (heap_lift HC.out hbc)
              replace HBp := Lib.hid (heap_lift HBp.out hbc)
              replace HBq := Lib.hid (heap_lift HBq.out hbc)
              replace HBa := Lib.hid (heap_lift HBa.out hbc)
              replace HB := Lib.hid (HB.out.trans (hbc.mono HB.out.size))
              have HBe := Lib.hid hh
              clear hbc HK hn hh
              have cBp0 := heap_cell HBp.out (j := 0) rfl
              have cBp1 := heap_cell HBp.out (j := 1) rfl
              have cBq0 := heap_cell HBq.out (j := 0) rfl
              have cBq1 := heap_cell HBq.out (j := 1) rfl
              have cBa0 := heap_cell HBa.out (j := 0) rfl
              have cBa1 := heap_cell HBa.out (j := 1) rfl
              have cBe0 := heap_cell HBe.out (j := 0) rfl
              have cBe1 := heap_cell HBe.out (j := 1) rfl
              go_wp2_with fail
              go_ret
              exact ⟨rfl, HB.out⟩

/-- The walk of SampleSwap. -/
theorem swap_walk (n dirty opened found : Int) (n0 : 0 ≤ n) (n1 : n ≤ 255) (y0 : 0 ≤ dirty) (y1 : dirty ≤ 255) (z0 : 0 ≤ opened) (z1 : opened ≤ 255) (f0 : 0 ≤ found) (f1 : found ≤ 255) (w : World) :
    Calls Try.prog 5 #[.int .u8 n, .int .u8 dirty, .int .u8 opened, .int .u8 found] w fun e w' => e = .returned (.bool true) ∧ Below w.heap.size w w' := by
  obtain ⟨b, hb⟩ : ∃ b, 1 + n % 36 = b := ⟨_, rfl⟩
  have b1 : 1 ≤ b := by omega
  have b2 : b ≤ 36 := by omega
  obtain ⟨d, hd⟩ : ∃ d, dirty % (b + 1) = d := ⟨_, rfl⟩
  have d0 : 0 ≤ d := by rw [← hd]; exact Int.emod_nonneg _ (by omega)
  have d1 : d < b + 1 := by rw [← hd]; exact Int.emod_lt_of_pos _ (by omega)
  obtain ⟨o, ho⟩ : ∃ o, opened % (b + 1) = o := ⟨_, rfl⟩
  have o0 : 0 ≤ o := by rw [← ho]; exact Int.emod_nonneg _ (by omega)
  have o1 : o < b + 1 := by rw [← ho]; exact Int.emod_lt_of_pos _ (by omega)
  obtain ⟨k, hk⟩ : ∃ k, found % (min d o + 1) = k := ⟨_, rfl⟩
  have k0 : 0 ≤ k := by rw [← hk]; exact Int.emod_nonneg _ (by omega)
  have k1 : k < min d o + 1 := by rw [← hk]; exact Int.emod_lt_of_pos _ (by omega)
  have s1 : 0 < Pure.sets b o := Pure.sets_pos o0 (by omega)
  have s2 : 0 < Pure.sets b d := Pure.sets_pos d0 (by omega)
  exact swap_case n dirty opened found b d o k _ _ _ _ (Lib.hid hb) (Lib.hid hd) (Lib.hid ho) (Lib.hid hk) n0 n1 y0 y1 z0 z1 f0 f1 b1 b2 d0 (by omega) o0 (by omega) k0 (by omega) (by omega)
    (Lib.hid rfl) (Lib.hid (part_same (Pure.ways_nonneg _ _ _ _) s2 (Pure.ways_nonneg _ _ _ _) s1 (Pure.ways_swap d0 (by omega) o0 (by omega)).symm))
    (Lib.hid rfl) (Lib.hid (part_same Pure.few_nonneg s2 Pure.few_nonneg s1 (Pure.few_swap d0 (by omega) o0 (by omega) k0 (by omega) (by omega)).symm)) w

end Go.Proofs.Ytnldipniaphmgaa

namespace Go.Proofs.Ytnldipniaphmgaa
open Go.ChangeShapes Go.WideShapes Go.ChangeAt Go.RowKit Go.Joins

theorem u8_span {n : Int} (h : (Lit.int .u8 n).wf = true) : 0 ≤ n ∧ n ≤ 255 := by
  simp [Lit.wf, IntKind.min, IntKind.max, IntKind.bits, IntKind.signed] at h
  omega

set_option maxRecDepth 100000 in
theorem swap_lifted (os : Os) (started : os.Started) (H : Type) (enc : TypeId × Value → H) :
    ReturnsInHanded {} Try.checked os 5 .any (Rows.sampleSwapSpec.pre6 enc Try.prog Try.f5 Rows.sampleSwapRow.domain false) (Rows.sampleSwapSpec.post enc Try.prog Try.f5 false true false false) := by
  refine returnsInHanded_of_change (C := Try.checked) ownKnob_none started (by kernel_rfl) Try.func5
    (ChangeSpec.witness6 (enc := enc) (C := Try.checked) false ⟨#[], #[.int .u8 0, .int .u8 0, .int .u8 0, .int .u8 0], []⟩ 8 (by kernel_rfl) (by kernel_rfl) (by kernel_rfl) (by kernel_rfl)) ?_
  intro W base args ds gs before hval0 hW _ _
  have hval : ∀ (j : Nat) t v, Try.f5.params[j]? = some t → args[j]? = some v → Value.okWide Try.prog W .any base t v := hval0
  have hW' := hW
  obtain ⟨pp, qq, hA0, hV, rfl, hfz, hnd⟩ := hW
  have hA : DataW.TrodAll enc Try.prog W 0 (fun _ => true) true Try.f5.params.toList args.toList ds pp := hA0
  rw [Try.params5] at hA hval
  obtain ⟨v0, vs0, d0, ds0, p0, q0, hargs, rfl, rfl, h0, r0⟩ := trodAll_cons hA
  obtain ⟨v1, vs1, d1, ds1, p1, q1, rfl, rfl, rfl, h1, r1⟩ := trodAll_cons r0
  obtain ⟨v2, vs2, d2, ds2, p2, q2, rfl, rfl, rfl, h2, r2⟩ := trodAll_cons r1
  obtain ⟨v3, vs3, d3, ds3, p3, q3, rfl, rfl, rfl, h3, r3⟩ := trodAll_cons r2
  obtain ⟨rfl, rfl, rfl⟩ := trodAll_nil r3
  obtain rfl : args = #[v0, v1, v2, v3] := by cases args; simp_all
  obtain ⟨rfl, rfl⟩ := trodVars_none hV
  obtain ⟨a0, rfl, rfl, rfl, wf0⟩ := open_int Try.underlying5 (hval 0 5 v0 rfl rfl) h0
  obtain ⟨a1, rfl, rfl, rfl, wf1⟩ := open_int Try.underlying5 (hval 1 5 v1 rfl rfl) h1
  obtain ⟨a2, rfl, rfl, rfl, wf2⟩ := open_int Try.underlying5 (hval 2 5 v2 rfl rfl) h2
  obtain ⟨a3, rfl, rfl, rfl, wf3⟩ := open_int Try.underlying5 (hval 3 5 v3 rfl rfl) h3
  clear hA0 hval0
  simp only [List.append_nil] at hW'
  refine (swap_walk a0 a1 a2 a3 (u8_span wf0).1 (u8_span wf0).2 (u8_span wf1).1 (u8_span wf1).2 (u8_span wf2).1 (u8_span wf2).2 (u8_span wf3).1 (u8_span wf3).2 W).mono fun e W' ⟨he, hb⟩ => ?_
  subst he
  refine ⟨_, rfl, _, _, _, [], [], [], hW', ?_, ?_, rfl, hb.frame _, fun h => by cases h⟩
  · exact trodAll_mk1 (shut_bool Try.underlying4 true)
  · exact trodAll_cons_mk (shut_int Try.underlying5 wf0) (trodAll_cons_mk (shut_int Try.underlying5 wf1) (trodAll_cons_mk (shut_int Try.underlying5 wf2) (trodAll_cons_mk (shut_int Try.underlying5 wf3) trodAll_mk0)))

/-- SampleSwap returns true for every input. -/
theorem swap_holds : Rows.SampleSwapSaid :=
  OpenClaim.holds_of_wide 5 Try.f5 rfl rfl rfl rfl rfl rfl rfl ⟨rfl, rfl, rfl, rfl, rfl⟩ rfl rfl rfl rfl rfl (by kernel_rfl) Try.func5 (by kernel_rfl)
    (of_decide_eq_true (by kernel_rfl)) (by unfold Func.isWrapper; first | (rw [if_pos (by decide +kernel)]; kernel_rfl) | (rw [if_neg (by decide +kernel)]; exact ⟨rfl, rfl⟩))
    (fun os started H enc _ => swap_lifted os started H enc)

end Go.Proofs.Ytnldipniaphmgaa
