/-
  The contract of alive: the examples come out as the chapter says.
-/
import Derived.Test.YtjegkkpdemoldaaGreatDoorBoxes
namespace Go.Proofs.YtjegkkpdemoldaaGreatDoor
open Go.RowKit Go.Shelf

set_option maxHeartbeats 16000000 in
set_option maxRecDepth 100000 in
theorem alive_any (w : World) : Calls Tryz.prog 5 #[] w fun e w' => e = .returned (.bool true) ∧ Below w.heap.size w w' := by
  go_enter Tryz.func5, Tryz.ntmps5
  go_wp2_with (first
    | (go_at_call 6; refine (bags_any _ _).mono ?_; rintro e w1 ⟨rfl, hb1⟩)
    | (go_at_call 22; refine (waysL _).mono ?_; rintro e w2 ⟨rfl, hb2⟩))
  have hc : w2.heap[w1.heap.size]? = some (.cells #[.int .i64 10, .int .i64 0, .int .i64 10] 28) := heap_lift (heap_top w1 _ rfl) hb2
  have HC := Lib.hid hc
  have HB : Hid (Below w.heap.size w w2) := Lib.hid ((hb1.alloc hb1.size _).trans (hb2.mono (by have := hb1.size; simp; omega)))
  obtain ⟨Bc, hBc⟩ : ∃ Bc, w1.heap.size = Bc := ⟨_, rfl⟩
  rw [hBc] at HC ⊢
  clear hc hb1 hb2 hBc
  have HK : Hid (∀ v : World, Below w2.heap.size w2 v → (v.cell? ⟨Bc, 0, none⟩ = some (.int .i64 10) ∧ v.cell? ⟨Bc, 1, none⟩ = some (.int .i64 0) ∧ v.cell? ⟨Bc, 2, none⟩ = some (.int .i64 10) ∧ Below w2.heap.size w2 v)) :=
    Lib.hid (fun v k => ⟨below_cell k (heap_cell HC.out (j := 0) rfl), below_cell k (heap_cell HC.out (j := 1) rfl), below_cell k (heap_cell HC.out (j := 2) rfl), k⟩)
  go_cut [4, 5] (fun s4 s5 wx => BoxAt wx s4 #[.int .i64 1, .int .i64 2] 31 w2.heap.size ∧ s5 = .int .i64 0 ∧ Below w2.heap.size w2 wx)
  case first =>
    as_aux_lemma =>
      go_region_held3 (fun v => v.cell? ⟨Bc, 0, none⟩ = some (.int .i64 10) ∧ v.cell? ⟨Bc, 1, none⟩ = some (.int .i64 0) ∧ v.cell? ⟨Bc, 2, none⟩ = some (.int .i64 10) ∧ Below w2.heap.size w2 v)
        (first | exact HK.out _ (Below.refl _ _).drew | exact HK.out _ ((Below.refl _ _).alloc (Nat.le_refl _) _).drew | exact HK.out _ hqu1 | exact HK.out _ (Below.alloc hqu1 (Below.size hqu1) _) | exact HK.out _ (box_two hqu1 HZ.out _ _).2 | exact HK.out _ hqu0 | exact HK.out _ (Below.alloc hqu0 (Below.size hqu0) _) | exact HK.out _ (box_two hqu0 HZ.out _ _).2)
        (first
          | (go_at_call 9; refine (drawn_any _ _ _).mono ?_; rintro e u0 ⟨rfl, hbu0⟩; (first | (have hz := HZ.out.up hbu0; have z0 := hz.cell 0 rfl; have z1 := hz.cell 1 rfl; have y0 := hz.free 0; have y1 := hz.free 1; have HZ := Lib.hid hz; clear hz) | (have hz := boxIn_drew hbu0; have z0 := hz.cell 0 rfl; have z1 := hz.cell 1 rfl; have y0 := hz.free 0; have y1 := hz.free 1; have HZ := Lib.hid hz; clear hz) | (have hz := boxIn_new (n := w2.heap.size) hqu1.size hbu0; have z0 := hz.cell 0 rfl; have z1 := hz.cell 1 rfl; have y0 := hz.free 0; have y1 := hz.free 1; have HZ := Lib.hid hz; clear hz) | (have hz := boxIn_new (n := w2.heap.size) hqu0.size hbu0; have z0 := hz.cell 0 rfl; have z1 := hz.cell 1 rfl; have y0 := hz.free 0; have y1 := hz.free 1; have HZ := Lib.hid hz; clear hz) | skip); have hqu0 : Below w2.heap.size w2 u0 := below_then (And.right (And.right (And.right (by assumption)))) hbu0)
          | (go_at_call 23; refine (chanceL _).mono ?_; rintro e u1 ⟨rfl, hbu1⟩; (first | (have hz := HZ.out.up hbu1; have z0 := hz.cell 0 rfl; have z1 := hz.cell 1 rfl; have y0 := hz.free 0; have y1 := hz.free 1; have HZ := Lib.hid hz; clear hz) | (have hz := boxIn_drew hbu1; have z0 := hz.cell 0 rfl; have z1 := hz.cell 1 rfl; have y0 := hz.free 0; have y1 := hz.free 1; have HZ := Lib.hid hz; clear hz) | (have hz := boxIn_new (n := w2.heap.size) hqu1.size hbu1; have z0 := hz.cell 0 rfl; have z1 := hz.cell 1 rfl; have y0 := hz.free 0; have y1 := hz.free 1; have HZ := Lib.hid hz; clear hz) | (have hz := boxIn_new (n := w2.heap.size) hqu0.size hbu1; have z0 := hz.cell 0 rfl; have z1 := hz.cell 1 rfl; have y0 := hz.free 0; have y1 := hz.free 1; have HZ := Lib.hid hz; clear hz) | skip); have hqu1 : Below w2.heap.size w2 u1 := below_then (And.right (And.right (And.right (by assumption)))) hbu1))
      all_goals
        go_wp2_with fail
        go_meet
        first | exact ⟨(box_last hqu1 _ _).1, rfl, (box_last hqu1 _ _).2⟩ | exact ⟨(box_two hqu1 HZ.out _ _).1, rfl, (box_two hqu1 HZ.out _ _).2⟩
  case rest =>
    obtain ⟨w3, rfl⟩ : ∃ x, x = wc := ⟨_, rfl⟩
    obtain ⟨⟨Ba, rfl, hnBa, hhBa⟩, rfl, hb⟩ := hcut
    replace HC := Lib.hid (heap_lift HC.out hb)
    replace HB := Lib.hid (HB.out.trans (hb.mono HB.out.size))
    have HBa := Lib.hid hhBa
    clear hb HK hnBa hhBa
    go_wp2_with fail
    have HK : Hid (∀ v : World, Below w3.heap.size w3 v → (v.cell? ⟨Bc, 0, none⟩ = some (.int .i64 10) ∧ v.cell? ⟨Bc, 1, none⟩ = some (.int .i64 0) ∧ v.cell? ⟨Bc, 2, none⟩ = some (.int .i64 10) ∧ Below w3.heap.size w3 v)) :=
      Lib.hid (fun v k => ⟨below_cell k (heap_cell HC.out (j := 0) rfl), below_cell k (heap_cell HC.out (j := 1) rfl), below_cell k (heap_cell HC.out (j := 2) rfl), k⟩)
    go_cut [6, 7] (fun s6 s7 wx => BoxAt wx s6 #[.int .i64 2, .int .i64 3] 31 w3.heap.size ∧ s7 = .int .i64 0 ∧ Below w3.heap.size w3 wx)
    case first =>
      as_aux_lemma =>
        go_region_held3 (fun v => v.cell? ⟨Bc, 0, none⟩ = some (.int .i64 10) ∧ v.cell? ⟨Bc, 1, none⟩ = some (.int .i64 0) ∧ v.cell? ⟨Bc, 2, none⟩ = some (.int .i64 10) ∧ Below w3.heap.size w3 v)
          (first | exact HK.out _ (Below.refl _ _).drew | exact HK.out _ ((Below.refl _ _).alloc (Nat.le_refl _) _).drew | exact HK.out _ hqu1 | exact HK.out _ (Below.alloc hqu1 (Below.size hqu1) _) | exact HK.out _ (box_two hqu1 HZ.out _ _).2 | exact HK.out _ hqu0 | exact HK.out _ (Below.alloc hqu0 (Below.size hqu0) _) | exact HK.out _ (box_two hqu0 HZ.out _ _).2)
          (first
            | (go_at_call 9; refine (drawn_any _ _ _).mono ?_; rintro e u0 ⟨rfl, hbu0⟩; (first | (have hz := HZ.out.up hbu0; have z0 := hz.cell 0 rfl; have z1 := hz.cell 1 rfl; have y0 := hz.free 0; have y1 := hz.free 1; have HZ := Lib.hid hz; clear hz) | (have hz := boxIn_drew hbu0; have z0 := hz.cell 0 rfl; have z1 := hz.cell 1 rfl; have y0 := hz.free 0; have y1 := hz.free 1; have HZ := Lib.hid hz; clear hz) | (have hz := boxIn_new (n := w3.heap.size) hqu1.size hbu0; have z0 := hz.cell 0 rfl; have z1 := hz.cell 1 rfl; have y0 := hz.free 0; have y1 := hz.free 1; have HZ := Lib.hid hz; clear hz) | (have hz := boxIn_new (n := w3.heap.size) hqu0.size hbu0; have z0 := hz.cell 0 rfl; have z1 := hz.cell 1 rfl; have y0 := hz.free 0; have y1 := hz.free 1; have HZ := Lib.hid hz; clear hz) | skip); have hqu0 : Below w3.heap.size w3 u0 := below_then (And.right (And.right (And.right (by assumption)))) hbu0)
            | (go_at_call 24; refine (atMostL _).mono ?_; rintro e u1 ⟨rfl, hbu1⟩; (first | (have hz := HZ.out.up hbu1; have z0 := hz.cell 0 rfl; have z1 := hz.cell 1 rfl; have y0 := hz.free 0; have y1 := hz.free 1; have HZ := Lib.hid hz; clear hz) | (have hz := boxIn_drew hbu1; have z0 := hz.cell 0 rfl; have z1 := hz.cell 1 rfl; have y0 := hz.free 0; have y1 := hz.free 1; have HZ := Lib.hid hz; clear hz) | (have hz := boxIn_new (n := w3.heap.size) hqu1.size hbu1; have z0 := hz.cell 0 rfl; have z1 := hz.cell 1 rfl; have y0 := hz.free 0; have y1 := hz.free 1; have HZ := Lib.hid hz; clear hz) | (have hz := boxIn_new (n := w3.heap.size) hqu0.size hbu1; have z0 := hz.cell 0 rfl; have z1 := hz.cell 1 rfl; have y0 := hz.free 0; have y1 := hz.free 1; have HZ := Lib.hid hz; clear hz) | skip); have hqu1 : Below w3.heap.size w3 u1 := below_then (And.right (And.right (And.right (by assumption)))) hbu1))
        all_goals
          go_wp2_with fail
          go_meet
          first | exact ⟨(box_last hqu1 _ _).1, rfl, (box_last hqu1 _ _).2⟩ | exact ⟨(box_two hqu1 HZ.out _ _).1, rfl, (box_two hqu1 HZ.out _ _).2⟩
    case rest =>
      obtain ⟨w4, rfl⟩ : ∃ x, x = wc := ⟨_, rfl⟩
      obtain ⟨⟨Bb, rfl, hnBb, hhBb⟩, rfl, hb⟩ := hcut
      replace HC := Lib.hid (heap_lift HC.out hb)
      replace HBa := Lib.hid (heap_lift HBa.out hb)
      replace HB := Lib.hid (HB.out.trans (hb.mono HB.out.size))
      have HBb := Lib.hid hhBb
      clear hb HK hnBb hhBb
      go_wp2_with fail
      have HK : Hid (∀ v : World, Below w4.heap.size w4 v → (v.cell? ⟨Bc, 0, none⟩ = some (.int .i64 10) ∧ v.cell? ⟨Bc, 1, none⟩ = some (.int .i64 0) ∧ v.cell? ⟨Bc, 2, none⟩ = some (.int .i64 10) ∧ Below w4.heap.size w4 v)) :=
        Lib.hid (fun v k => ⟨below_cell k (heap_cell HC.out (j := 0) rfl), below_cell k (heap_cell HC.out (j := 1) rfl), below_cell k (heap_cell HC.out (j := 2) rfl), k⟩)
      go_cut [8, 9] (fun s8 s9 wx => BoxAt wx s8 #[.int .i64 1, .int .i64 8] 26 w4.heap.size ∧ s9 = .int .i64 0 ∧ Below w4.heap.size w4 wx)
      case first =>
        as_aux_lemma =>
          go_region_held3 (fun v => v.cell? ⟨Bc, 0, none⟩ = some (.int .i64 10) ∧ v.cell? ⟨Bc, 1, none⟩ = some (.int .i64 0) ∧ v.cell? ⟨Bc, 2, none⟩ = some (.int .i64 10) ∧ Below w4.heap.size w4 v)
            (first | exact HK.out _ (Below.refl _ _).drew | exact HK.out _ ((Below.refl _ _).alloc (Nat.le_refl _) _).drew | exact HK.out _ hqu1 | exact HK.out _ (Below.alloc hqu1 (Below.size hqu1) _) | exact HK.out _ (box_two hqu1 HZ.out _ _).2 | exact HK.out _ hqu0 | exact HK.out _ (Below.alloc hqu0 (Below.size hqu0) _) | exact HK.out _ (box_two hqu0 HZ.out _ _).2)
            (first
              | (go_at_call 9; refine (drawn_any _ _ _).mono ?_; rintro e u0 ⟨rfl, hbu0⟩; (first | (have hz := HZ.out.up hbu0; have z0 := hz.cell 0 rfl; have z1 := hz.cell 1 rfl; have y0 := hz.free 0; have y1 := hz.free 1; have HZ := Lib.hid hz; clear hz) | (have hz := boxIn_drew hbu0; have z0 := hz.cell 0 rfl; have z1 := hz.cell 1 rfl; have y0 := hz.free 0; have y1 := hz.free 1; have HZ := Lib.hid hz; clear hz) | (have hz := boxIn_new (n := w4.heap.size) hqu1.size hbu0; have z0 := hz.cell 0 rfl; have z1 := hz.cell 1 rfl; have y0 := hz.free 0; have y1 := hz.free 1; have HZ := Lib.hid hz; clear hz) | (have hz := boxIn_new (n := w4.heap.size) hqu0.size hbu0; have z0 := hz.cell 0 rfl; have z1 := hz.cell 1 rfl; have y0 := hz.free 0; have y1 := hz.free 1; have HZ := Lib.hid hz; clear hz) | skip); have hqu0 : Below w4.heap.size w4 u0 := below_then (And.right (And.right (And.right (by assumption)))) hbu0)
              | (go_at_call 25; refine (canL _).mono ?_; rintro e u1 ⟨rfl, hbu1⟩; (first | (have hz := HZ.out.up hbu1; have z0 := hz.cell 0 rfl; have z1 := hz.cell 1 rfl; have y0 := hz.free 0; have y1 := hz.free 1; have HZ := Lib.hid hz; clear hz) | (have hz := boxIn_drew hbu1; have z0 := hz.cell 0 rfl; have z1 := hz.cell 1 rfl; have y0 := hz.free 0; have y1 := hz.free 1; have HZ := Lib.hid hz; clear hz) | (have hz := boxIn_new (n := w4.heap.size) hqu1.size hbu1; have z0 := hz.cell 0 rfl; have z1 := hz.cell 1 rfl; have y0 := hz.free 0; have y1 := hz.free 1; have HZ := Lib.hid hz; clear hz) | (have hz := boxIn_new (n := w4.heap.size) hqu0.size hbu1; have z0 := hz.cell 0 rfl; have z1 := hz.cell 1 rfl; have y0 := hz.free 0; have y1 := hz.free 1; have HZ := Lib.hid hz; clear hz) | skip); have hqu1 : Below w4.heap.size w4 u1 := below_then (And.right (And.right (And.right (by assumption)))) hbu1))
          all_goals
            go_wp2_with fail
            go_meet
            first | exact ⟨(box_last hqu1 _ _).1, rfl, (box_last hqu1 _ _).2⟩ | exact ⟨(box_two hqu1 HZ.out _ _).1, rfl, (box_two hqu1 HZ.out _ _).2⟩
      case rest =>
        obtain ⟨w5, rfl⟩ : ∃ x, x = wc := ⟨_, rfl⟩
        obtain ⟨⟨Bs, rfl, hnBs, hhBs⟩, rfl, hb⟩ := hcut
        replace HC := Lib.hid (heap_lift HC.out hb)
        replace HBa := Lib.hid (heap_lift HBa.out hb)
        replace HBb := Lib.hid (heap_lift HBb.out hb)
        replace HB := Lib.hid (HB.out.trans (hb.mono HB.out.size))
        have HBs := Lib.hid hhBs
        clear hb HK hnBs hhBs
        go_wp2_with fail
        have HK : Hid (∀ v : World, Below w5.heap.size w5 v → (v.cell? ⟨Bc, 0, none⟩ = some (.int .i64 10) ∧ v.cell? ⟨Bc, 1, none⟩ = some (.int .i64 0) ∧ v.cell? ⟨Bc, 2, none⟩ = some (.int .i64 10) ∧ Below w5.heap.size w5 v)) :=
          Lib.hid (fun v k => ⟨below_cell k (heap_cell HC.out (j := 0) rfl), below_cell k (heap_cell HC.out (j := 1) rfl), below_cell k (heap_cell HC.out (j := 2) rfl), k⟩)
        go_cut [10, 11] (fun s10 s11 wx => IntsAt wx s10 [3] ∧ s11 = .int .i64 0 ∧ Below w5.heap.size w5 wx)
        case first =>
          as_aux_lemma =>
            go_region_held3 (fun v => v.cell? ⟨Bc, 0, none⟩ = some (.int .i64 10) ∧ v.cell? ⟨Bc, 1, none⟩ = some (.int .i64 0) ∧ v.cell? ⟨Bc, 2, none⟩ = some (.int .i64 10) ∧ Below w5.heap.size w5 v)
              (first | exact HK.out _ (Below.refl _ _).drew | exact HK.out _ ((Below.refl _ _).alloc (Nat.le_refl _) _).drew | exact HK.out _ hqu1 | exact HK.out _ (Below.alloc hqu1 (Below.size hqu1) _) | exact HK.out _ hqu0 | exact HK.out _ (Below.alloc hqu0 (Below.size hqu0) _))
              (first
                | (go_at_call 9; refine (drawn_any _ _ _).mono ?_; rintro e u0 ⟨rfl, hbu0⟩; have hqu0 : Below w5.heap.size w5 u0 := below_then (And.right (And.right (And.right (by assumption)))) hbu0)
                | (go_at_call 10; refine (likelyLit _).mono ?_; rintro e u1 ⟨v, rfl, hi, hbu1⟩; have hqu1 : Below w5.heap.size w5 u1 := below_then (And.right (And.right (And.right (by assumption)))) hbu1))
            all_goals
              go_wp2_with fail
              go_meet
              exact ⟨hi, rfl, hqu1⟩
        case rest =>
          obtain ⟨w6, rfl⟩ : ∃ x, x = wc := ⟨_, rfl⟩
          obtain ⟨hi, rfl, hb⟩ := hcut
          replace HC := Lib.hid (heap_lift HC.out hb)
          replace HBa := Lib.hid (heap_lift HBa.out hb)
          replace HBb := Lib.hid (heap_lift HBb.out hb)
          replace HBs := Lib.hid (heap_lift HBs.out hb)
          replace HB := Lib.hid (HB.out.trans (hb.mono HB.out.size))
          have HI := Lib.hid hi
          clear hb HK hi
          go_wp2_with fail
          have HK : Hid (∀ v : World, Below w6.heap.size w6 v → (v.cell? ⟨Bc, 0, none⟩ = some (.int .i64 10) ∧ v.cell? ⟨Bc, 1, none⟩ = some (.int .i64 0) ∧ v.cell? ⟨Bc, 2, none⟩ = some (.int .i64 10) ∧ Below w6.heap.size w6 v)) :=
            Lib.hid (fun v k => ⟨below_cell k (heap_cell HC.out (j := 0) rfl), below_cell k (heap_cell HC.out (j := 1) rfl), below_cell k (heap_cell HC.out (j := 2) rfl), k⟩)
          go_cut [12, 13] (fun s12 s13 wx => s12 = .int .i64 4 ∧ s13 = .int .i64 0 ∧ Below w6.heap.size w6 wx)
          case first =>
            as_aux_lemma =>
              go_region_held3 (fun v => v.cell? ⟨Bc, 0, none⟩ = some (.int .i64 10) ∧ v.cell? ⟨Bc, 1, none⟩ = some (.int .i64 0) ∧ v.cell? ⟨Bc, 2, none⟩ = some (.int .i64 10) ∧ Below w6.heap.size w6 v)
                (first | exact HK.out _ (Below.refl _ _).drew | exact HK.out _ ((Below.refl _ _).alloc (Nat.le_refl _) _).drew | exact HK.out _ hqu2 | exact HK.out _ (Below.alloc hqu2 (Below.size hqu2) _) | exact HK.out _ hqu1 | exact HK.out _ (Below.alloc hqu1 (Below.size hqu1) _) | exact HK.out _ hqu0 | exact HK.out _ (Below.alloc hqu0 (Below.size hqu0) _))
                (first
                  | (go_at_call 9; refine (drawn_any _ _ _).mono ?_; rintro e u0 ⟨rfl, hbu0⟩; have hqu0 : Below w6.heap.size w6 u0 := below_then (And.right (And.right (And.right (by assumption)))) hbu0)
                  | (go_at_call 12; refine (newPart_any _ _ _).mono ?_; rintro e u1 ⟨rfl, hbu1⟩; have hqu1 : Below w6.heap.size w6 u1 := below_then (And.right (And.right (And.right (by assumption)))) hbu1)
                  | (go_at_call 26; refine (boundL _).mono ?_; rintro e u2 ⟨rfl, hbu2⟩; have hqu2 : Below w6.heap.size w6 u2 := below_then (And.right (And.right (And.right (by assumption)))) hbu2))
              all_goals
                go_wp2_with fail
                go_meet
                exact ⟨rfl, rfl, hqu2⟩
          case rest =>
            obtain ⟨w7, rfl⟩ : ∃ x, x = wc := ⟨_, rfl⟩
            obtain ⟨rfl, rfl, hb⟩ := hcut
            replace HC := Lib.hid (heap_lift HC.out hb)
            replace HBa := Lib.hid (heap_lift HBa.out hb)
            replace HBb := Lib.hid (heap_lift HBb.out hb)
            replace HBs := Lib.hid (heap_lift HBs.out hb)
            replace HI := Lib.hid (HI.out.below hb)
            replace HB := Lib.hid (HB.out.trans (hb.mono HB.out.size))
            clear hb HK
            go_wp2_with fail
            have HK : Hid (∀ v : World, Below w7.heap.size w7 v → (v.cell? ⟨Bc, 0, none⟩ = some (.int .i64 10) ∧ v.cell? ⟨Bc, 1, none⟩ = some (.int .i64 0) ∧ v.cell? ⟨Bc, 2, none⟩ = some (.int .i64 10) ∧ Below w7.heap.size w7 v)) :=
              Lib.hid (fun v k => ⟨below_cell k (heap_cell HC.out (j := 0) rfl), below_cell k (heap_cell HC.out (j := 1) rfl), below_cell k (heap_cell HC.out (j := 2) rfl), k⟩)
            go_cut [14, 15] (fun s14 s15 wx => s14 = .int .i64 3 ∧ s15 = .int .i64 0 ∧ Below w7.heap.size w7 wx)
            case first =>
              as_aux_lemma =>
                go_region_held3 (fun v => v.cell? ⟨Bc, 0, none⟩ = some (.int .i64 10) ∧ v.cell? ⟨Bc, 1, none⟩ = some (.int .i64 0) ∧ v.cell? ⟨Bc, 2, none⟩ = some (.int .i64 10) ∧ Below w7.heap.size w7 v)
                  (first | exact HK.out _ (Below.refl _ _).drew | exact HK.out _ ((Below.refl _ _).alloc (Nat.le_refl _) _).drew | exact HK.out _ hqu1 | exact HK.out _ (Below.alloc hqu1 (Below.size hqu1) _) | exact HK.out _ hqu0 | exact HK.out _ (Below.alloc hqu0 (Below.size hqu0) _))
                  (first
                    | (go_at_call 12; refine (newPart_any _ _ _).mono ?_; rintro e u0 ⟨rfl, hbu0⟩; have hqu0 : Below w7.heap.size w7 u0 := below_then (And.right (And.right (And.right (by assumption)))) hbu0)
                    | (go_at_call 11; refine (findL _).mono ?_; rintro e u1 ⟨rfl, hbu1⟩; have hqu1 : Below w7.heap.size w7 u1 := below_then (And.right (And.right (And.right (by assumption)))) hbu1))
                all_goals
                  go_wp2_with fail
                  go_meet
                  exact ⟨rfl, rfl, hqu1⟩
            case rest =>
              obtain ⟨w8, rfl⟩ : ∃ x, x = wc := ⟨_, rfl⟩
              obtain ⟨rfl, rfl, hb⟩ := hcut
              replace HC := Lib.hid (heap_lift HC.out hb)
              replace HBa := Lib.hid (heap_lift HBa.out hb)
              replace HBb := Lib.hid (heap_lift HBb.out hb)
              replace HBs := Lib.hid (heap_lift HBs.out hb)
              replace HI := Lib.hid (HI.out.below hb)
              replace HB := Lib.hid (HB.out.trans (hb.mono HB.out.size))
              clear hb HK
              go_wp2_with fail
              have HK : Hid (∀ v : World, Below w8.heap.size w8 v → (v.cell? ⟨Bc, 0, none⟩ = some (.int .i64 10) ∧ v.cell? ⟨Bc, 1, none⟩ = some (.int .i64 0) ∧ v.cell? ⟨Bc, 2, none⟩ = some (.int .i64 10) ∧ Below w8.heap.size w8 v)) :=
                Lib.hid (fun v k => ⟨below_cell k (heap_cell HC.out (j := 0) rfl), below_cell k (heap_cell HC.out (j := 1) rfl), below_cell k (heap_cell HC.out (j := 2) rfl), k⟩)
              go_cut [16, 17] (fun s16 s17 wx => BoxAt wx s16 #[.int .i64 3, .int .i64 0] 47 w8.heap.size ∧ s17 = .int .i64 0 ∧ Below w8.heap.size w8 wx)
              case first =>
                as_aux_lemma =>
                  go_region_held3 (fun v => v.cell? ⟨Bc, 0, none⟩ = some (.int .i64 10) ∧ v.cell? ⟨Bc, 1, none⟩ = some (.int .i64 0) ∧ v.cell? ⟨Bc, 2, none⟩ = some (.int .i64 10) ∧ Below w8.heap.size w8 v)
                    (first | exact HK.out _ (Below.refl _ _).drew | exact HK.out _ ((Below.refl _ _).alloc (Nat.le_refl _) _).drew | exact HK.out _ hqu1 | exact HK.out _ (Below.alloc hqu1 (Below.size hqu1) _) | exact HK.out _ (box_two hqu1 HZ.out _ _).2 | exact HK.out _ hqu0 | exact HK.out _ (Below.alloc hqu0 (Below.size hqu0) _) | exact HK.out _ (box_two hqu0 HZ.out _ _).2)
                    (first
                      | (go_at_call 12; refine (newPart_any _ _ _).mono ?_; rintro e u0 ⟨rfl, hbu0⟩; (first | (have hz := HZ.out.up hbu0; have z0 := hz.cell 0 rfl; have z1 := hz.cell 1 rfl; have y0 := hz.free 0; have y1 := hz.free 1; have HZ := Lib.hid hz; clear hz) | (have hz := boxIn_drew hbu0; have z0 := hz.cell 0 rfl; have z1 := hz.cell 1 rfl; have y0 := hz.free 0; have y1 := hz.free 1; have HZ := Lib.hid hz; clear hz) | (have hz := boxIn_new (n := w8.heap.size) hqu1.size hbu0; have z0 := hz.cell 0 rfl; have z1 := hz.cell 1 rfl; have y0 := hz.free 0; have y1 := hz.free 1; have HZ := Lib.hid hz; clear hz) | (have hz := boxIn_new (n := w8.heap.size) hqu0.size hbu0; have z0 := hz.cell 0 rfl; have z1 := hz.cell 1 rfl; have y0 := hz.free 0; have y1 := hz.free 1; have HZ := Lib.hid hz; clear hz) | skip); have hqu0 : Below w8.heap.size w8 u0 := below_then (And.right (And.right (And.right (by assumption)))) hbu0)
                      | (go_at_call 27; refine (leastL _).mono ?_; rintro e u1 ⟨rfl, hbu1⟩; (first | (have hz := HZ.out.up hbu1; have z0 := hz.cell 0 rfl; have z1 := hz.cell 1 rfl; have y0 := hz.free 0; have y1 := hz.free 1; have HZ := Lib.hid hz; clear hz) | (have hz := boxIn_drew hbu1; have z0 := hz.cell 0 rfl; have z1 := hz.cell 1 rfl; have y0 := hz.free 0; have y1 := hz.free 1; have HZ := Lib.hid hz; clear hz) | (have hz := boxIn_new (n := w8.heap.size) hqu1.size hbu1; have z0 := hz.cell 0 rfl; have z1 := hz.cell 1 rfl; have y0 := hz.free 0; have y1 := hz.free 1; have HZ := Lib.hid hz; clear hz) | (have hz := boxIn_new (n := w8.heap.size) hqu0.size hbu1; have z0 := hz.cell 0 rfl; have z1 := hz.cell 1 rfl; have y0 := hz.free 0; have y1 := hz.free 1; have HZ := Lib.hid hz; clear hz) | skip); have hqu1 : Below w8.heap.size w8 u1 := below_then (And.right (And.right (And.right (by assumption)))) hbu1))
                  all_goals
                    go_wp2_with fail
                    go_meet
                    first | exact ⟨(box_last hqu1 _ _).1, rfl, (box_last hqu1 _ _).2⟩ | exact ⟨(box_two hqu1 HZ.out _ _).1, rfl, (box_two hqu1 HZ.out _ _).2⟩
              case rest =>
                obtain ⟨w9, rfl⟩ : ∃ x, x = wc := ⟨_, rfl⟩
                obtain ⟨⟨Br, rfl, hnBr, hhBr⟩, rfl, hb⟩ := hcut
                replace HC := Lib.hid (heap_lift HC.out hb)
                replace HBa := Lib.hid (heap_lift HBa.out hb)
                replace HBb := Lib.hid (heap_lift HBb.out hb)
                replace HBs := Lib.hid (heap_lift HBs.out hb)
                replace HI := Lib.hid (HI.out.below hb)
                replace HB := Lib.hid (HB.out.trans (hb.mono HB.out.size))
                have HBr := Lib.hid hhBr
                clear hb HK hnBr hhBr
                go_wp2_with fail
                have HK : Hid (∀ v : World, Below w9.heap.size w9 v → (v.cell? ⟨Bc, 0, none⟩ = some (.int .i64 10) ∧ v.cell? ⟨Bc, 1, none⟩ = some (.int .i64 0) ∧ v.cell? ⟨Bc, 2, none⟩ = some (.int .i64 10) ∧ Below w9.heap.size w9 v)) :=
                  Lib.hid (fun v k => ⟨below_cell k (heap_cell HC.out (j := 0) rfl), below_cell k (heap_cell HC.out (j := 1) rfl), below_cell k (heap_cell HC.out (j := 2) rfl), k⟩)
                go_cut [18, 19, 20] (fun s18 s19 s20 wx => BoxAt wx s18 #[.int .i64 11, .int .i64 21] 31 w9.heap.size ∧ BoxAt wx s19 #[.int .i64 46, .int .i64 15] 31 w9.heap.size ∧ s20 = .int .i64 0 ∧ Below w9.heap.size w9 wx)
                case first =>
                  as_aux_lemma =>
                    go_region_held3 (fun v => v.cell? ⟨Bc, 0, none⟩ = some (.int .i64 10) ∧ v.cell? ⟨Bc, 1, none⟩ = some (.int .i64 0) ∧ v.cell? ⟨Bc, 2, none⟩ = some (.int .i64 10) ∧ Below w9.heap.size w9 v)
                      (first | exact HK.out _ (by repeat (first | with_reducible exact hqu1 | with_reducible exact hqu0 | with_reducible exact (Below.refl _ _).drew | with_reducible exact Below.refl _ _ | with_reducible exact ((Below.refl _ _).alloc (Nat.le_refl _) _).drew | with_reducible exact (((Below.refl _ _).alloc (Nat.le_refl _) _).alloc (by simp) _).drew | with_reducible refine Below.setCell ?_ (by first | exact HZ.out.1 | exact Nat.le_trans (Nat.le_succ_of_le HZ.out.1) HY.out.1 | exact hqu1.size | exact hqu0.size | (have hsz := hqu1.size; simp; omega) | (have hsz := hqu0.size; simp; omega) | exact Nat.le_refl _ | (simp; done)) _ | with_reducible refine Below.alloc ?_ (by first | exact HZ.out.1 | exact Nat.le_trans (Nat.le_succ_of_le HZ.out.1) HY.out.1 | exact hqu1.size | exact hqu0.size | (have hsz := hqu1.size; simp; omega) | (have hsz := hqu0.size; simp; omega) | exact Nat.le_refl _ | (simp; done)) _)))
                      (first
                        | (go_at_call 31; refine (newTwice_any _).mono ?_; rintro e u0 ⟨rfl, hbu0⟩; (first | (with_reducible have hz := HZ.out.up hbu0; with_reducible have hy := HY.out.up hbu0; have hij := hz.ne hy; have hji := hij.symm; have z0 := hz.cell 0 rfl; have z1 := hz.cell 1 rfl; have z2 := hz.free 0; have z3 := hz.free 1; have HZ := Lib.hid hz; clear hz; have y0 := hy.cell 0 rfl; have y1 := hy.cell 1 rfl; have y2 := hy.free 0; have y3 := hy.free 1; have HY := Lib.hid hy; clear hy; have p0 := far2 (x := .int .i64 11) (y := .int .i64 21) hij y0; have p1 := far2 (x := .int .i64 11) (y := .int .i64 21) hij y1; have p2 := far2 (x := .int .i64 11) (y := .int .i64 21) hji z0; have p3 := far2 (x := .int .i64 11) (y := .int .i64 21) hji z1) | (with_reducible have hzy := boxIn_next HZ.out hbu0; obtain ⟨hz, hy⟩ := hzy; have hij := hz.ne hy; have hji := hij.symm; have z0 := hz.cell 0 rfl; have z1 := hz.cell 1 rfl; have z2 := hz.free 0; have z3 := hz.free 1; have HZ := Lib.hid hz; clear hz; have y0 := hy.cell 0 rfl; have y1 := hy.cell 1 rfl; have y2 := hy.free 0; have y3 := hy.free 1; have HY := Lib.hid hy; clear hy; have p0 := far2 (x := .int .i64 11) (y := .int .i64 21) hij y0; have p1 := far2 (x := .int .i64 11) (y := .int .i64 21) hij y1; have p2 := far2 (x := .int .i64 11) (y := .int .i64 21) hji z0; have p3 := far2 (x := .int .i64 11) (y := .int .i64 21) hji z1) | (with_reducible have hz := HZ.out.up hbu0; have hx := hz.alloc (.cells #[.int .i64 0, .int .i64 0] 31); have x0 := hx.cell 0 rfl; have x1 := hx.cell 1 rfl; have x2 := hx.free 0; have x3 := hx.free 1; clear hx; have hx := hz.alloc (.cells #[.int .i64 11, .int .i64 21] 31); have x4 := hx.cell 0 rfl; have x5 := hx.cell 1 rfl; have x6 := hx.free 0; have x7 := hx.free 1; clear hx; have t0 := hz.late #[.int .i64 0, .int .i64 0] 31 0 (x := .int .i64 11) (y := .int .i64 21) rfl; have t1 := hz.late #[.int .i64 0, .int .i64 0] 31 1 (x := .int .i64 11) (y := .int .i64 21) rfl; have z0 := hz.cell 0 rfl; have z1 := hz.cell 1 rfl; have z2 := hz.free 0; have z3 := hz.free 1; have HZ := Lib.hid hz; clear hz) | (with_reducible have hz := boxIn_drew1 hbu0; with_reducible have hy := boxIn_drew2 hbu0; have hij := hz.ne hy; have hji := hij.symm; have z0 := hz.cell 0 rfl; have z1 := hz.cell 1 rfl; have z2 := hz.free 0; have z3 := hz.free 1; have HZ := Lib.hid hz; clear hz; have y0 := hy.cell 0 rfl; have y1 := hy.cell 1 rfl; have y2 := hy.free 0; have y3 := hy.free 1; have HY := Lib.hid hy; clear hy; have p0 := far2 (x := .int .i64 11) (y := .int .i64 21) hij y0; have p1 := far2 (x := .int .i64 11) (y := .int .i64 21) hij y1; have p2 := far2 (x := .int .i64 11) (y := .int .i64 21) hji z0; have p3 := far2 (x := .int .i64 11) (y := .int .i64 21) hji z1) | (with_reducible have hz := boxIn_new1 (n := w9.heap.size) hqu1.size hbu0; with_reducible have hy := boxIn_new2 hbu0; have hij := hz.ne hy; have hji := hij.symm; have z0 := hz.cell 0 rfl; have z1 := hz.cell 1 rfl; have z2 := hz.free 0; have z3 := hz.free 1; have HZ := Lib.hid hz; clear hz; have y0 := hy.cell 0 rfl; have y1 := hy.cell 1 rfl; have y2 := hy.free 0; have y3 := hy.free 1; have HY := Lib.hid hy; clear hy; have p0 := far2 (x := .int .i64 11) (y := .int .i64 21) hij y0; have p1 := far2 (x := .int .i64 11) (y := .int .i64 21) hij y1; have p2 := far2 (x := .int .i64 11) (y := .int .i64 21) hji z0; have p3 := far2 (x := .int .i64 11) (y := .int .i64 21) hji z1) | (with_reducible have hz := boxIn_new1 (n := w9.heap.size) hqu0.size hbu0; with_reducible have hy := boxIn_new2 hbu0; have hij := hz.ne hy; have hji := hij.symm; have z0 := hz.cell 0 rfl; have z1 := hz.cell 1 rfl; have z2 := hz.free 0; have z3 := hz.free 1; have HZ := Lib.hid hz; clear hz; have y0 := hy.cell 0 rfl; have y1 := hy.cell 1 rfl; have y2 := hy.free 0; have y3 := hy.free 1; have HY := Lib.hid hy; clear hy; have p0 := far2 (x := .int .i64 11) (y := .int .i64 21) hij y0; have p1 := far2 (x := .int .i64 11) (y := .int .i64 21) hij y1; have p2 := far2 (x := .int .i64 11) (y := .int .i64 21) hji z0; have p3 := far2 (x := .int .i64 11) (y := .int .i64 21) hji z1) | (with_reducible have hz := boxIn_drew hbu0; have hx := hz.alloc (.cells #[.int .i64 0, .int .i64 0] 31); have x0 := hx.cell 0 rfl; have x1 := hx.cell 1 rfl; have x2 := hx.free 0; have x3 := hx.free 1; clear hx; have hx := hz.alloc (.cells #[.int .i64 11, .int .i64 21] 31); have x4 := hx.cell 0 rfl; have x5 := hx.cell 1 rfl; have x6 := hx.free 0; have x7 := hx.free 1; clear hx; have t0 := hz.late #[.int .i64 0, .int .i64 0] 31 0 (x := .int .i64 11) (y := .int .i64 21) rfl; have t1 := hz.late #[.int .i64 0, .int .i64 0] 31 1 (x := .int .i64 11) (y := .int .i64 21) rfl; have z0 := hz.cell 0 rfl; have z1 := hz.cell 1 rfl; have z2 := hz.free 0; have z3 := hz.free 1; have HZ := Lib.hid hz; clear hz) | (with_reducible have hz := boxIn_new (n := w9.heap.size) hqu1.size hbu0; have hx := hz.alloc (.cells #[.int .i64 0, .int .i64 0] 31); have x0 := hx.cell 0 rfl; have x1 := hx.cell 1 rfl; have x2 := hx.free 0; have x3 := hx.free 1; clear hx; have hx := hz.alloc (.cells #[.int .i64 11, .int .i64 21] 31); have x4 := hx.cell 0 rfl; have x5 := hx.cell 1 rfl; have x6 := hx.free 0; have x7 := hx.free 1; clear hx; have t0 := hz.late #[.int .i64 0, .int .i64 0] 31 0 (x := .int .i64 11) (y := .int .i64 21) rfl; have t1 := hz.late #[.int .i64 0, .int .i64 0] 31 1 (x := .int .i64 11) (y := .int .i64 21) rfl; have z0 := hz.cell 0 rfl; have z1 := hz.cell 1 rfl; have z2 := hz.free 0; have z3 := hz.free 1; have HZ := Lib.hid hz; clear hz) | (with_reducible have hz := boxIn_new (n := w9.heap.size) hqu0.size hbu0; have hx := hz.alloc (.cells #[.int .i64 0, .int .i64 0] 31); have x0 := hx.cell 0 rfl; have x1 := hx.cell 1 rfl; have x2 := hx.free 0; have x3 := hx.free 1; clear hx; have hx := hz.alloc (.cells #[.int .i64 11, .int .i64 21] 31); have x4 := hx.cell 0 rfl; have x5 := hx.cell 1 rfl; have x6 := hx.free 0; have x7 := hx.free 1; clear hx; have t0 := hz.late #[.int .i64 0, .int .i64 0] 31 0 (x := .int .i64 11) (y := .int .i64 21) rfl; have t1 := hz.late #[.int .i64 0, .int .i64 0] 31 1 (x := .int .i64 11) (y := .int .i64 21) rfl; have z0 := hz.cell 0 rfl; have z1 := hz.cell 1 rfl; have z2 := hz.free 0; have z3 := hz.free 1; have HZ := Lib.hid hz; clear hz) | skip); have hqu0 : Below w9.heap.size w9 u0 := below_then (And.right (And.right (And.right (by assumption)))) hbu0)
                        | (go_at_call 28; refine (twiceL _).mono ?_; rintro e u1 ⟨rfl, hbu1⟩; (first | (with_reducible have hz := HZ.out.up hbu1; with_reducible have hy := HY.out.up hbu1; have hij := hz.ne hy; have hji := hij.symm; have z0 := hz.cell 0 rfl; have z1 := hz.cell 1 rfl; have z2 := hz.free 0; have z3 := hz.free 1; have HZ := Lib.hid hz; clear hz; have y0 := hy.cell 0 rfl; have y1 := hy.cell 1 rfl; have y2 := hy.free 0; have y3 := hy.free 1; have HY := Lib.hid hy; clear hy; have p0 := far2 (x := .int .i64 11) (y := .int .i64 21) hij y0; have p1 := far2 (x := .int .i64 11) (y := .int .i64 21) hij y1; have p2 := far2 (x := .int .i64 11) (y := .int .i64 21) hji z0; have p3 := far2 (x := .int .i64 11) (y := .int .i64 21) hji z1) | (with_reducible have hzy := boxIn_next HZ.out hbu1; obtain ⟨hz, hy⟩ := hzy; have hij := hz.ne hy; have hji := hij.symm; have z0 := hz.cell 0 rfl; have z1 := hz.cell 1 rfl; have z2 := hz.free 0; have z3 := hz.free 1; have HZ := Lib.hid hz; clear hz; have y0 := hy.cell 0 rfl; have y1 := hy.cell 1 rfl; have y2 := hy.free 0; have y3 := hy.free 1; have HY := Lib.hid hy; clear hy; have p0 := far2 (x := .int .i64 11) (y := .int .i64 21) hij y0; have p1 := far2 (x := .int .i64 11) (y := .int .i64 21) hij y1; have p2 := far2 (x := .int .i64 11) (y := .int .i64 21) hji z0; have p3 := far2 (x := .int .i64 11) (y := .int .i64 21) hji z1) | (with_reducible have hz := HZ.out.up hbu1; have hx := hz.alloc (.cells #[.int .i64 0, .int .i64 0] 31); have x0 := hx.cell 0 rfl; have x1 := hx.cell 1 rfl; have x2 := hx.free 0; have x3 := hx.free 1; clear hx; have hx := hz.alloc (.cells #[.int .i64 11, .int .i64 21] 31); have x4 := hx.cell 0 rfl; have x5 := hx.cell 1 rfl; have x6 := hx.free 0; have x7 := hx.free 1; clear hx; have t0 := hz.late #[.int .i64 0, .int .i64 0] 31 0 (x := .int .i64 11) (y := .int .i64 21) rfl; have t1 := hz.late #[.int .i64 0, .int .i64 0] 31 1 (x := .int .i64 11) (y := .int .i64 21) rfl; have z0 := hz.cell 0 rfl; have z1 := hz.cell 1 rfl; have z2 := hz.free 0; have z3 := hz.free 1; have HZ := Lib.hid hz; clear hz) | (with_reducible have hz := boxIn_drew1 hbu1; with_reducible have hy := boxIn_drew2 hbu1; have hij := hz.ne hy; have hji := hij.symm; have z0 := hz.cell 0 rfl; have z1 := hz.cell 1 rfl; have z2 := hz.free 0; have z3 := hz.free 1; have HZ := Lib.hid hz; clear hz; have y0 := hy.cell 0 rfl; have y1 := hy.cell 1 rfl; have y2 := hy.free 0; have y3 := hy.free 1; have HY := Lib.hid hy; clear hy; have p0 := far2 (x := .int .i64 11) (y := .int .i64 21) hij y0; have p1 := far2 (x := .int .i64 11) (y := .int .i64 21) hij y1; have p2 := far2 (x := .int .i64 11) (y := .int .i64 21) hji z0; have p3 := far2 (x := .int .i64 11) (y := .int .i64 21) hji z1) | (with_reducible have hz := boxIn_new1 (n := w9.heap.size) hqu1.size hbu1; with_reducible have hy := boxIn_new2 hbu1; have hij := hz.ne hy; have hji := hij.symm; have z0 := hz.cell 0 rfl; have z1 := hz.cell 1 rfl; have z2 := hz.free 0; have z3 := hz.free 1; have HZ := Lib.hid hz; clear hz; have y0 := hy.cell 0 rfl; have y1 := hy.cell 1 rfl; have y2 := hy.free 0; have y3 := hy.free 1; have HY := Lib.hid hy; clear hy; have p0 := far2 (x := .int .i64 11) (y := .int .i64 21) hij y0; have p1 := far2 (x := .int .i64 11) (y := .int .i64 21) hij y1; have p2 := far2 (x := .int .i64 11) (y := .int .i64 21) hji z0; have p3 := far2 (x := .int .i64 11) (y := .int .i64 21) hji z1) | (with_reducible have hz := boxIn_new1 (n := w9.heap.size) hqu0.size hbu1; with_reducible have hy := boxIn_new2 hbu1; have hij := hz.ne hy; have hji := hij.symm; have z0 := hz.cell 0 rfl; have z1 := hz.cell 1 rfl; have z2 := hz.free 0; have z3 := hz.free 1; have HZ := Lib.hid hz; clear hz; have y0 := hy.cell 0 rfl; have y1 := hy.cell 1 rfl; have y2 := hy.free 0; have y3 := hy.free 1; have HY := Lib.hid hy; clear hy; have p0 := far2 (x := .int .i64 11) (y := .int .i64 21) hij y0; have p1 := far2 (x := .int .i64 11) (y := .int .i64 21) hij y1; have p2 := far2 (x := .int .i64 11) (y := .int .i64 21) hji z0; have p3 := far2 (x := .int .i64 11) (y := .int .i64 21) hji z1) | (with_reducible have hz := boxIn_drew hbu1; have hx := hz.alloc (.cells #[.int .i64 0, .int .i64 0] 31); have x0 := hx.cell 0 rfl; have x1 := hx.cell 1 rfl; have x2 := hx.free 0; have x3 := hx.free 1; clear hx; have hx := hz.alloc (.cells #[.int .i64 11, .int .i64 21] 31); have x4 := hx.cell 0 rfl; have x5 := hx.cell 1 rfl; have x6 := hx.free 0; have x7 := hx.free 1; clear hx; have t0 := hz.late #[.int .i64 0, .int .i64 0] 31 0 (x := .int .i64 11) (y := .int .i64 21) rfl; have t1 := hz.late #[.int .i64 0, .int .i64 0] 31 1 (x := .int .i64 11) (y := .int .i64 21) rfl; have z0 := hz.cell 0 rfl; have z1 := hz.cell 1 rfl; have z2 := hz.free 0; have z3 := hz.free 1; have HZ := Lib.hid hz; clear hz) | (with_reducible have hz := boxIn_new (n := w9.heap.size) hqu1.size hbu1; have hx := hz.alloc (.cells #[.int .i64 0, .int .i64 0] 31); have x0 := hx.cell 0 rfl; have x1 := hx.cell 1 rfl; have x2 := hx.free 0; have x3 := hx.free 1; clear hx; have hx := hz.alloc (.cells #[.int .i64 11, .int .i64 21] 31); have x4 := hx.cell 0 rfl; have x5 := hx.cell 1 rfl; have x6 := hx.free 0; have x7 := hx.free 1; clear hx; have t0 := hz.late #[.int .i64 0, .int .i64 0] 31 0 (x := .int .i64 11) (y := .int .i64 21) rfl; have t1 := hz.late #[.int .i64 0, .int .i64 0] 31 1 (x := .int .i64 11) (y := .int .i64 21) rfl; have z0 := hz.cell 0 rfl; have z1 := hz.cell 1 rfl; have z2 := hz.free 0; have z3 := hz.free 1; have HZ := Lib.hid hz; clear hz) | (with_reducible have hz := boxIn_new (n := w9.heap.size) hqu0.size hbu1; have hx := hz.alloc (.cells #[.int .i64 0, .int .i64 0] 31); have x0 := hx.cell 0 rfl; have x1 := hx.cell 1 rfl; have x2 := hx.free 0; have x3 := hx.free 1; clear hx; have hx := hz.alloc (.cells #[.int .i64 11, .int .i64 21] 31); have x4 := hx.cell 0 rfl; have x5 := hx.cell 1 rfl; have x6 := hx.free 0; have x7 := hx.free 1; clear hx; have t0 := hz.late #[.int .i64 0, .int .i64 0] 31 0 (x := .int .i64 11) (y := .int .i64 21) rfl; have t1 := hz.late #[.int .i64 0, .int .i64 0] 31 1 (x := .int .i64 11) (y := .int .i64 21) rfl; have z0 := hz.cell 0 rfl; have z1 := hz.cell 1 rfl; have z2 := hz.free 0; have z3 := hz.free 1; have HZ := Lib.hid hz; clear hz) | skip); have hqu1 : Below w9.heap.size w9 u1 := below_then (And.right (And.right (And.right (by assumption)))) hbu1))
                    all_goals
                      go_wp2_with fail
                      go_meet
                      first
                        | (have hf := two_old hqu1 HZ.out HY.out (.int .i64 11) (.int .i64 21) (.int .i64 46) (.int .i64 15); with_reducible exact ⟨hf.1, hf.2.1, rfl, hf.2.2⟩)
                        | (have hf := two_old' hqu1 HZ.out HY.out (.int .i64 11) (.int .i64 21) (.int .i64 46) (.int .i64 15); with_reducible exact ⟨hf.1, hf.2.1, rfl, hf.2.2⟩)
                        | (have hf := two_late (c := .int .i64 0) (d := .int .i64 0) hqu1 HZ.out (.int .i64 11) (.int .i64 21) (.int .i64 46) (.int .i64 15); with_reducible exact ⟨hf.1, hf.2.1, rfl, hf.2.2⟩)
                        | (have hf := two_late' hqu1 HZ.out (.int .i64 11) (.int .i64 21) (.int .i64 46) (.int .i64 15); with_reducible exact ⟨hf.1, hf.2.1, rfl, hf.2.2⟩)
                        | (have hf := two_last hqu1 (.int .i64 11) (.int .i64 21) (.int .i64 46) (.int .i64 15) 31; with_reducible exact ⟨hf.1, hf.2.1, rfl, hf.2.2⟩)
                        | (have hf := two_last' hqu1 (.int .i64 11) (.int .i64 21) (.int .i64 46) (.int .i64 15) 31; with_reducible exact ⟨hf.1, hf.2.1, rfl, hf.2.2⟩)
                case rest =>
                  obtain ⟨w10, rfl⟩ : ∃ x, x = wc := ⟨_, rfl⟩
                  obtain ⟨⟨Bx, rfl, hnBx, hhBx⟩, ⟨By, rfl, hnBy, hhBy⟩, rfl, hb⟩ := hcut
                  replace HC := Lib.hid (heap_lift HC.out hb)
                  replace HBa := Lib.hid (heap_lift HBa.out hb)
                  replace HBb := Lib.hid (heap_lift HBb.out hb)
                  replace HBs := Lib.hid (heap_lift HBs.out hb)
                  replace HBr := Lib.hid (heap_lift HBr.out hb)
                  replace HI := Lib.hid (HI.out.below hb)
                  replace HB := Lib.hid (HB.out.trans (hb.mono HB.out.size))
                  have HBx := Lib.hid hhBx
                  have HBy := Lib.hid hhBy
                  clear hb HK hnBx hhBx hnBy hhBy
                  go_wp2_with fail
                  go_wp2_with (first
                    | (go_at_call 17; refine (terms_any _).mono ?_; rintro e u0 ⟨ta, tc, rfl, ht, hb0⟩)
                    | (go_at_call 9; refine (drawn_any _ _ _).mono ?_; rintro e u1 ⟨rfl, hb1⟩)
                    | (go_at_call 21; refine (offL _ _ _ (ht.below hb1)).mono ?_; rintro e u2 ⟨rfl, hb2⟩)
                    | (go_at_call 18; refine (awardL _).mono ?_; rintro e u3 ⟨rfl, hb3⟩))
                  have hb := below_then (below_then (below_then hb0 hb1) hb2) hb3
                  replace HBa := Lib.hid (heap_lift HBa.out hb)
                  replace HBb := Lib.hid (heap_lift HBb.out hb)
                  replace HBs := Lib.hid (heap_lift HBs.out hb)
                  replace HBr := Lib.hid (heap_lift HBr.out hb)
                  replace HBx := Lib.hid (heap_lift HBx.out hb)
                  replace HBy := Lib.hid (heap_lift HBy.out hb)
                  replace HI := Lib.hid (HI.out.below hb)
                  replace HB := Lib.hid (HB.out.trans (hb.mono HB.out.size))
                  clear hb hb0 hb1 hb2 hb3 ht HC
                  have HK : Hid (∀ v : World, Below u3.heap.size u3 v → (v.cell? ⟨Ba, 0, none⟩ = some (.int .i64 1) ∧ v.cell? ⟨Ba, 1, none⟩ = some (.int .i64 2) ∧ v.cell? ⟨Bb, 0, none⟩ = some (.int .i64 2) ∧ v.cell? ⟨Bb, 1, none⟩ = some (.int .i64 3) ∧ v.cell? ⟨Bs, 0, none⟩ = some (.int .i64 1) ∧ v.cell? ⟨Bs, 1, none⟩ = some (.int .i64 8) ∧ Below u3.heap.size u3 v)) :=
                    Lib.hid (fun v k => ⟨below_cell k (heap_cell HBa.out (j := 0) rfl), below_cell k (heap_cell HBa.out (j := 1) rfl), below_cell k (heap_cell HBb.out (j := 0) rfl), below_cell k (heap_cell HBb.out (j := 1) rfl), below_cell k (heap_cell HBs.out (j := 0) rfl), below_cell k (heap_cell HBs.out (j := 1) rfl), k⟩)
                  go_cut [149] (fun s149 wx => s149 = .bool false ∧ Below u3.heap.size u3 wx)
                  case first =>
                    as_aux_lemma =>
                      go_region_held3 (fun v => v.cell? ⟨Ba, 0, none⟩ = some (.int .i64 1) ∧ v.cell? ⟨Ba, 1, none⟩ = some (.int .i64 2) ∧ v.cell? ⟨Bb, 0, none⟩ = some (.int .i64 2) ∧ v.cell? ⟨Bb, 1, none⟩ = some (.int .i64 3) ∧ v.cell? ⟨Bs, 0, none⟩ = some (.int .i64 1) ∧ v.cell? ⟨Bs, 1, none⟩ = some (.int .i64 8) ∧ Below u3.heap.size u3 v)
                        (first | exact HK.out _ (Below.refl _ _).drew | with_reducible exact HK.out _ hqv2 | with_reducible exact HK.out _ (Below.alloc hqv1 (Below.size hqv1) _) | with_reducible exact HK.out _ hqv1)
                        (first
                          | (go_at_call 12; refine (newPart_any _ _ _).mono ?_; rintro e v1 ⟨rfl, hbv1⟩; have hqv1 : Below u3.heap.size u3 v1 := below_then (And.right (And.right (And.right (And.right (And.right (And.right (by assumption))))))) hbv1)
                          | (go_at_call 19; refine (sameInts_any _ _ [3] (by decide) _ (HI.out.below (And.right (And.right (And.right (And.right (And.right (And.right (by assumption)))))))) (ints_one _ _ _)).mono ?_; rintro e v2 ⟨rfl, hbv2⟩; have hqv2 : Below u3.heap.size u3 v2 := below_then (And.right (And.right (And.right (And.right (And.right (And.right (by assumption))))))) hbv2))
                      all_goals
                        go_wp2_with fail
                        go_meet
                        exact ⟨rfl, hqv2⟩
                  case rest =>
                    obtain ⟨w11, rfl⟩ : ∃ x, x = wc := ⟨_, rfl⟩
                    obtain ⟨rfl, hb⟩ := hcut
                    replace HBr := Lib.hid (heap_lift HBr.out hb)
                    replace HBx := Lib.hid (heap_lift HBx.out hb)
                    replace HBy := Lib.hid (heap_lift HBy.out hb)
                    replace HB := Lib.hid (HB.out.trans (hb.mono HB.out.size))
                    clear hb HK HBa HBb HBs HI
                    go_wp2_with fail
                    have HK : Hid (∀ v : World, Below w11.heap.size w11 v → (v.cell? ⟨Br, 0, none⟩ = some (.int .i64 3) ∧ v.cell? ⟨Br, 1, none⟩ = some (.int .i64 0) ∧ v.cell? ⟨Bx, 0, none⟩ = some (.int .i64 11) ∧ v.cell? ⟨Bx, 1, none⟩ = some (.int .i64 21) ∧ v.cell? ⟨By, 0, none⟩ = some (.int .i64 46) ∧ v.cell? ⟨By, 1, none⟩ = some (.int .i64 15) ∧ Below w11.heap.size w11 v)) :=
                      Lib.hid (fun v k => ⟨below_cell k (heap_cell HBr.out (j := 0) rfl), below_cell k (heap_cell HBr.out (j := 1) rfl), below_cell k (heap_cell HBx.out (j := 0) rfl), below_cell k (heap_cell HBx.out (j := 1) rfl), below_cell k (heap_cell HBy.out (j := 0) rfl), below_cell k (heap_cell HBy.out (j := 1) rfl), k⟩)
                    go_region_held3 (fun v => v.cell? ⟨Br, 0, none⟩ = some (.int .i64 3) ∧ v.cell? ⟨Br, 1, none⟩ = some (.int .i64 0) ∧ v.cell? ⟨Bx, 0, none⟩ = some (.int .i64 11) ∧ v.cell? ⟨Bx, 1, none⟩ = some (.int .i64 21) ∧ v.cell? ⟨By, 0, none⟩ = some (.int .i64 46) ∧ v.cell? ⟨By, 1, none⟩ = some (.int .i64 15) ∧ Below w11.heap.size w11 v)
                      (first | exact HK.out _ (Below.refl _ _).drew | with_reducible exact HK.out _ hqv1)
                      (first
                        | (go_at_call 12; refine (newPart_any _ _ _).mono ?_; rintro e v1 ⟨rfl, hbv1⟩; have hqv1 : Below w11.heap.size w11 v1 := below_then (And.right (And.right (And.right (And.right (And.right (And.right (by assumption))))))) hbv1))
                    all_goals
                      go_wp2_with fail
                      go_ret
                      exact ⟨rfl, HB.out.trans (hqv1.mono HB.out.size)⟩

end Go.Proofs.YtjegkkpdemoldaaGreatDoor
