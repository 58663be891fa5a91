/-
  The contracts of the specification's own Rule, Double, Accepts, fine, risked and Good.
-/
import Derived.Test.YtmhhfopiaimhbaaRAble
import Derived.Test.YtmhhfopiaimhbaaRKnown
import Derived.Test.YtmhhfopiaimhbaaTwiceTop
import Derived.Test.YtmhhfopiaimhbaaGood
import Derived.Deep.QuietTactic
namespace Go.Proofs.Ytmhhfopiaimhbaa
open Go.RowKit Go.Shelf

theorem heap_lft {w w' : World} {B : Nat} {o : Obj} (h : w.heap[B]? = some o) (hb : Below w.heap.size w w') : w'.heap[B]? = some o := (hb.block _ (Array.getElem?_eq_some_iff.1 h).1).trans h
theorem below_thn {W u v : World} (h : Below W.heap.size W u) (k : Below u.heap.size u v) : Below W.heap.size W v := h.trans (k.mono h.size)

set_option maxHeartbeats 1000000 in
set_option maxRecDepth 100000 in
theorem rRule_any (b lo hi o f : Int) (w : World) :
    Calls Try.prog 22 #[cargoV b lo hi, .agg #[.int .i64 o, .int .i64 f]] w fun e w' => e = .returned (.bool (Pure.okDraw b o f)) ∧ w' = (w.alloc (.cells #[.int .i64 b, .int .i64 lo, .int .i64 hi] 25)).alloc (.cells #[.int .i64 o, .int .i64 f] 27) := by
  obtain ⟨r1, h1⟩ : ∃ r1, (decide (0 ≤ o) && decide (o ≤ b)) = r1 := ⟨_, rfl⟩
  obtain ⟨r2, h2⟩ : ∃ r2, (decide (0 ≤ f) && decide (f ≤ o)) = r2 := ⟨_, rfl⟩
  have hG : Hid (Pure.okDraw b o f = (r1 && r2)) := by
    subst h1
    subst h2
    refine Lib.hid ?_
    unfold Pure.okDraw
    rw [Bool.eq_iff_iff]
    simp
    omega
  have H1 := Lib.hid h1
  have H2 := Lib.hid h2
  clear h1 h2
  cases r1
  · go_enter Try.func22, Try.ntmps22
    go_wp2_with fail
    refine (rWithin_any o 0 b _ H1.out _).mono ?_
    rintro e w' ⟨rfl, rfl⟩
    go_wp2_with fail
    go_ret
    exact ⟨ret_bool (by rw [hG.out]; rfl), rfl⟩
  · go_enter Try.func22, Try.ntmps22
    go_wp2_with fail
    refine (rWithin_any o 0 b _ H1.out _).mono ?_
    rintro e w' ⟨rfl, rfl⟩
    go_wp2_with fail
    refine (rWithin_any f 0 o _ H2.out _).mono ?_
    rintro e w' ⟨rfl, rfl⟩
    go_wp2_with fail
    go_ret
    exact ⟨ret_bool (by rw [hG.out]; rfl), rfl⟩

set_option maxHeartbeats 2000000 in
set_option maxRecDepth 100000 in
theorem rDouble_any (b lo hi x1 a r x2 t : Int) (b0 : 0 ≤ b) (b2 : b ≤ 36) (w : World) :
    Calls Try.prog 39 #[cargoV b lo hi, doubleV x1 a r x2 t] w fun e w' => e = .returned (.bool (Pure.okDouble b x1 a r x2 t)) ∧ w' = (w.alloc (.cells #[.int .i64 b, .int .i64 lo, .int .i64 hi] 25)).alloc (.cells #[.int .i64 x1, .int .i64 a, .int .i64 r, .int .i64 x2, .int .i64 t] 29) := by
  obtain ⟨r1, h1⟩ : ∃ z, (decide (0 ≤ x1) && decide (x1 ≤ b)) = z := ⟨_, rfl⟩
  obtain ⟨r2, h2⟩ : ∃ z, (decide (0 ≤ x2) && decide (x2 ≤ b - x1)) = z := ⟨_, rfl⟩
  obtain ⟨r3, h3⟩ : ∃ z, (decide (0 ≤ a) && decide (a ≤ x1)) = z := ⟨_, rfl⟩
  obtain ⟨r4, h4⟩ : ∃ z, (decide (a + 1 ≤ r) && decide (r ≤ x1 + 1)) = z := ⟨_, rfl⟩
  obtain ⟨r5, h5⟩ : ∃ z, (decide (a ≤ t) && decide (t ≤ r + x2)) = z := ⟨_, rfl⟩
  have hG : Hid (Pure.okDouble b x1 a r x2 t = (r1 && r2 && r3 && r4 && r5)) := by
    subst h1 h2 h3 h4 h5
    refine Lib.hid ?_
    unfold Pure.okDouble
    rw [Bool.eq_iff_iff]
    simp only [Bool.and_eq_true, decide_eq_true_eq]
    constructor
    · rintro ⟨p1, p2, p3, p4, p5, p6, p7, p8, p9, p10⟩
      exact ⟨⟨⟨⟨⟨p1, p2⟩, p3, p4⟩, p5, p6⟩, p7, p8⟩, p9, p10⟩
    · rintro ⟨⟨⟨⟨⟨p1, p2⟩, p3, p4⟩, p5, p6⟩, p7, p8⟩, p9, p10⟩
      exact ⟨p1, p2, p3, p4, p5, p6, p7, p8, p9, p10⟩
  have H1 := Lib.hid h1
  have H2 := Lib.hid h2
  have H3 := Lib.hid h3
  have H4 := Lib.hid h4
  have H5 := Lib.hid h5
  clear h1 h2 h3 h4 h5
  cases r1
  · go_enter Try.func39, Try.ntmps39
    go_wp2_with fail
    refine (rWithin_any x1 0 b _ H1.out _).mono ?_
    rintro e w' ⟨rfl, rfl⟩
    go_wp2_with fail
    go_ret
    exact ⟨ret_bool (by rw [hG.out]; rfl), rfl⟩
  · have m1 : 0 ≤ x1 ∧ x1 ≤ b := by have := H1.out; rwa [Bool.and_eq_true, decide_eq_true_eq, decide_eq_true_eq] at this
    cases r2
    · go_enter Try.func39, Try.ntmps39
      go_wp2_with fail
      refine (rWithin_any x1 0 b _ H1.out _).mono ?_
      rintro e w' ⟨rfl, rfl⟩
      go_wp2_with fail
      refine (rWithin_any x2 0 (b - x1) _ H2.out _).mono ?_
      rintro e w' ⟨rfl, rfl⟩
      go_wp2_with fail
      go_ret
      exact ⟨ret_bool (by rw [hG.out]; rfl), rfl⟩
    · have m2 : 0 ≤ x2 ∧ x2 ≤ b - x1 := by have := H2.out; rwa [Bool.and_eq_true, decide_eq_true_eq, decide_eq_true_eq] at this
      cases r3
      · go_enter Try.func39, Try.ntmps39
        go_wp2_with fail
        refine (rWithin_any x1 0 b _ H1.out _).mono ?_
        rintro e w' ⟨rfl, rfl⟩
        go_wp2_with fail
        refine (rWithin_any x2 0 (b - x1) _ H2.out _).mono ?_
        rintro e w' ⟨rfl, rfl⟩
        go_wp2_with fail
        refine (rWithin_any a 0 x1 _ H3.out _).mono ?_
        rintro e w' ⟨rfl, rfl⟩
        go_wp2_with fail
        go_ret
        exact ⟨ret_bool (by rw [hG.out]; rfl), rfl⟩
      · have m3 : 0 ≤ a ∧ a ≤ x1 := by have := H3.out; rwa [Bool.and_eq_true, decide_eq_true_eq, decide_eq_true_eq] at this
        cases r4
        · go_enter Try.func39, Try.ntmps39
          go_wp2_with fail
          refine (rWithin_any x1 0 b _ H1.out _).mono ?_
          rintro e w' ⟨rfl, rfl⟩
          go_wp2_with fail
          refine (rWithin_any x2 0 (b - x1) _ H2.out _).mono ?_
          rintro e w' ⟨rfl, rfl⟩
          go_wp2_with fail
          refine (rWithin_any a 0 x1 _ H3.out _).mono ?_
          rintro e w' ⟨rfl, rfl⟩
          go_wp2_with fail
          refine (rWithin_any r (a + 1) (x1 + 1) _ H4.out _).mono ?_
          rintro e w' ⟨rfl, rfl⟩
          go_wp2_with fail
          go_ret
          exact ⟨ret_bool (by rw [hG.out]; rfl), rfl⟩
        · have m4 : a + 1 ≤ r ∧ r ≤ x1 + 1 := by have := H4.out; rwa [Bool.and_eq_true, decide_eq_true_eq, decide_eq_true_eq] at this
          cases r5
          · go_enter Try.func39, Try.ntmps39
            go_wp2_with fail
            refine (rWithin_any x1 0 b _ H1.out _).mono ?_
            rintro e w' ⟨rfl, rfl⟩
            go_wp2_with fail
            refine (rWithin_any x2 0 (b - x1) _ H2.out _).mono ?_
            rintro e w' ⟨rfl, rfl⟩
            go_wp2_with fail
            refine (rWithin_any a 0 x1 _ H3.out _).mono ?_
            rintro e w' ⟨rfl, rfl⟩
            go_wp2_with fail
            refine (rWithin_any r (a + 1) (x1 + 1) _ H4.out _).mono ?_
            rintro e w' ⟨rfl, rfl⟩
            go_wp2_with fail
            refine (rWithin_any t a (r + x2) _ H5.out _).mono ?_
            rintro e w' ⟨rfl, rfl⟩
            go_wp2_with fail
            go_ret
            exact ⟨ret_bool (by rw [hG.out]; rfl), rfl⟩
          · have m5 : a ≤ t ∧ t ≤ r + x2 := by have := H5.out; rwa [Bool.and_eq_true, decide_eq_true_eq, decide_eq_true_eq] at this
            go_enter Try.func39, Try.ntmps39
            go_wp2_with fail
            refine (rWithin_any x1 0 b _ H1.out _).mono ?_
            rintro e w' ⟨rfl, rfl⟩
            go_wp2_with fail
            refine (rWithin_any x2 0 (b - x1) _ H2.out _).mono ?_
            rintro e w' ⟨rfl, rfl⟩
            go_wp2_with fail
            refine (rWithin_any a 0 x1 _ H3.out _).mono ?_
            rintro e w' ⟨rfl, rfl⟩
            go_wp2_with fail
            refine (rWithin_any r (a + 1) (x1 + 1) _ H4.out _).mono ?_
            rintro e w' ⟨rfl, rfl⟩
            go_wp2_with fail
            refine (rWithin_any t a (r + x2) _ H5.out _).mono ?_
            rintro e w' ⟨rfl, rfl⟩
            go_wp2_with fail
            go_ret
            exact ⟨ret_bool (by rw [hG.out]; rfl), rfl⟩

theorem rFewB {b d o f F : Int} (hb0 : 0 ≤ b) (hb : b ≤ 36) (hd0 : 0 ≤ d) (hd : d ≤ b) (ho0 : 0 ≤ o) (ho : o ≤ b) (hf0 : 0 ≤ f) (hf : f ≤ o) (h : Hid (Pure.few b d o f = F)) (w : World) :
    Calls Try.prog 25 #[.int .i64 b, .int .i64 d, .int .i64 o, .int .i64 f] w fun e w' => e = .returned (.int .i64 F) ∧ Below w.heap.size w w' :=
  (rFew_any b d o f hb0 hb (by omega) (by omega) (by omega) ho0 (by omega) (by omega) (by omega) w).mono fun _ _ g => ⟨g.1.trans (by rw [← h.out, Pure.few_eq hf0 hf]), by rw [← g.2]; exact Below.refl _ _⟩
set_option maxHeartbeats 2000000 in
set_option maxRecDepth 100000 in
theorem rAccepts_any (b lo hi x y d : Int) (w : World) :
    Calls Try.prog 5 #[cargoV b lo hi, .agg #[.int .i64 x, .int .i64 y], .int .i64 d] w fun e w' => e = .returned (Pure.res2 (Pure.first3 (Pure.err (Pure.okCargo b lo hi) 10) (Pure.err (Pure.okDraw b x y) 13) (Pure.err (Pure.okIn lo hi d) 2)) (partV (Pure.few b d x y) (Pure.sets b x))) ∧ Below w.heap.size w w' := by
  obtain ⟨r1, h1⟩ : ∃ r, Pure.okCargo b lo hi = r := ⟨_, rfl⟩
  obtain ⟨r2, h2⟩ : ∃ r, Pure.okDraw b x y = r := ⟨_, rfl⟩
  obtain ⟨r3, h3⟩ : ∃ r, Pure.okIn lo hi d = r := ⟨_, rfl⟩
  have H1 := Lib.hid h1
  have H2 := Lib.hid h2
  have H3 := Lib.hid h3
  clear h1 h2 h3
  have hcell : ∀ v : World, v.heap[w.heap.size + 1 + 1]? = some (.cells #[.int .i64 0, .int .i64 0] 31) → True := fun _ _ => trivial
  clear hcell
  go_enter Try.func5, Try.ntmps5
  go_wp2_with fail
  refine (rCargo_any b lo hi _).mono ?_
  rintro e w' ⟨rfl, hw1⟩
  obtain ⟨HW1, HB1⟩ : Hid (w'.heap[w.heap.size]? = some (.cells #[.int .i64 b, .int .i64 lo, .int .i64 hi] 25) ∧ w'.heap[w.heap.size + 1]? = some (.cells #[.int .i64 x, .int .i64 y] 27) ∧ w'.heap[w.heap.size + 1 + 1]? = some (.cells #[.int .i64 0, .int .i64 0] 31)) ∧ Hid (Below w.heap.size w w') := by
    rw [hw1]
    exact ⟨Lib.hid ⟨heap_up (heap_up (heap_up (heap_top w _ rfl) _) _) _, heap_up (heap_up (heap_top _ _ (by simp)) _) _, heap_up (heap_top _ _ (by simp)) _⟩, Lib.hid ((((Below.refl _ _).alloc (Nat.le_refl _) _).alloc (by simp) _).alloc (by simp; omega) _ |>.alloc (by simp; omega) _)⟩
  clear hw1
  obtain ⟨w1, rfl⟩ : ∃ v, v = w' := ⟨_, rfl⟩
  rw [H1.out]
  have e0 := heap_cell HW1.out.1 (j := 0) rfl
  have e1 := heap_cell HW1.out.1 (j := 1) rfl
  have e2 := heap_cell HW1.out.1 (j := 2) rfl
  have g0 := heap_cell HW1.out.2.1 (j := 0) rfl
  have g1 := heap_cell HW1.out.2.1 (j := 1) rfl
  have z0 := heap_cell HW1.out.2.2 (j := 0) rfl
  have z1 := heap_cell HW1.out.2.2 (j := 1) rfl
  have f0 := heap_frozen HW1.out.2.2 0
  have f1 := heap_frozen HW1.out.2.2 1
  cases r1
  · go_wp2_with fail
    refine bodyPost_ret (v := .tuple #[.agg #[.int .i64 0, .int .i64 0], .int .i64 10]) (by simp [results, Try.results5, go_sem, z0, z1]) rfl ⟨?_, ?_⟩
    · rw [H1.out, Pure.first3_1 _ _ (by decide), Pure.res2_err (by decide)]
    · exact (HB1.out.setCell (p := ⟨w.heap.size + 1 + 1, 0, none⟩) (by simp; omega) _).setCell (p := ⟨w.heap.size + 1 + 1, 1, none⟩) (by simp; omega) _
  · go_wp2_with fail
    clear e0 e1 e2 g0 g1 z0 z1 f0 f1
    refine (rRule_any b lo hi x y _).mono ?_
    rintro e w' ⟨rfl, hw1⟩
    obtain ⟨HW2, HB2⟩ : Hid (w'.heap[w.heap.size]? = some (.cells #[.int .i64 b, .int .i64 lo, .int .i64 hi] 25) ∧ w'.heap[w.heap.size + 1]? = some (.cells #[.int .i64 x, .int .i64 y] 27) ∧ w'.heap[w.heap.size + 1 + 1]? = some (.cells #[.int .i64 0, .int .i64 0] 31)) ∧ Hid (Below w.heap.size w w') := by
      rw [hw1]
      have hb := ((Below.refl w1.heap.size w1).alloc (Nat.le_refl _) (.cells #[.int .i64 b, .int .i64 lo, .int .i64 hi] 25)).alloc (by simp) (.cells #[.int .i64 x, .int .i64 y] 27)
      exact ⟨Lib.hid ⟨heap_lft HW1.out.1 hb, heap_lft HW1.out.2.1 hb, heap_lft HW1.out.2.2 hb⟩, Lib.hid (below_thn HB1.out hb)⟩
    clear hw1
    obtain ⟨w2, rfl⟩ : ∃ v, v = w' := ⟨_, rfl⟩
    rw [H2.out]
    have e0 := heap_cell HW2.out.1 (j := 0) rfl
    have e1 := heap_cell HW2.out.1 (j := 1) rfl
    have e2 := heap_cell HW2.out.1 (j := 2) rfl
    have g0 := heap_cell HW2.out.2.1 (j := 0) rfl
    have g1 := heap_cell HW2.out.2.1 (j := 1) rfl
    have z0 := heap_cell HW2.out.2.2 (j := 0) rfl
    have z1 := heap_cell HW2.out.2.2 (j := 1) rfl
    have f0 := heap_frozen HW2.out.2.2 0
    have f1 := heap_frozen HW2.out.2.2 1
    cases r2
    · go_wp2_with fail
      refine bodyPost_ret (v := .tuple #[.agg #[.int .i64 0, .int .i64 0], .int .i64 13]) (by simp [results, Try.results5, go_sem, z0, z1]) rfl ⟨?_, ?_⟩
      · rw [H1.out, H2.out, Pure.first3_2 _ _ (by decide), Pure.res2_err (by decide)]
      · exact (HB2.out.setCell (p := ⟨w.heap.size + 1 + 1, 0, none⟩) (by simp; omega) _).setCell (p := ⟨w.heap.size + 1 + 1, 1, none⟩) (by simp; omega) _
    · go_wp2_with fail
      clear e0 e1 e2 g0 g1 z0 z1 f0 f1
      refine (rMay_any b lo hi d _).mono ?_
      rintro e w' ⟨rfl, hw1⟩
      obtain ⟨HW3, HB3⟩ : Hid (w'.heap[w.heap.size]? = some (.cells #[.int .i64 b, .int .i64 lo, .int .i64 hi] 25) ∧ w'.heap[w.heap.size + 1]? = some (.cells #[.int .i64 x, .int .i64 y] 27) ∧ w'.heap[w.heap.size + 1 + 1]? = some (.cells #[.int .i64 0, .int .i64 0] 31)) ∧ Hid (Below w.heap.size w w') := by
        rw [hw1]
        have hb := (Below.refl w2.heap.size w2).alloc (Nat.le_refl _) (.cells #[.int .i64 b, .int .i64 lo, .int .i64 hi] 25)
        exact ⟨Lib.hid ⟨heap_lft HW2.out.1 hb, heap_lft HW2.out.2.1 hb, heap_lft HW2.out.2.2 hb⟩, Lib.hid (below_thn HB2.out hb)⟩
      clear hw1
      obtain ⟨w3, rfl⟩ : ∃ v, v = w' := ⟨_, rfl⟩
      rw [H3.out]
      have e0 := heap_cell HW3.out.1 (j := 0) rfl
      have e1 := heap_cell HW3.out.1 (j := 1) rfl
      have e2 := heap_cell HW3.out.1 (j := 2) rfl
      have g0 := heap_cell HW3.out.2.1 (j := 0) rfl
      have g1 := heap_cell HW3.out.2.1 (j := 1) rfl
      have z0 := heap_cell HW3.out.2.2 (j := 0) rfl
      have z1 := heap_cell HW3.out.2.2 (j := 1) rfl
      have f0 := heap_frozen HW3.out.2.2 0
      have f1 := heap_frozen HW3.out.2.2 1
      cases r3
      · go_wp2_with fail
        refine bodyPost_ret (v := .tuple #[.agg #[.int .i64 0, .int .i64 0], .int .i64 2]) (by simp [results, Try.results5, go_sem, z0, z1]) rfl ⟨?_, ?_⟩
        · rw [H1.out, H2.out, H3.out, Pure.first3_3 _ _ (by decide), Pure.res2_err (by decide)]
        · exact (HB3.out.setCell (p := ⟨w.heap.size + 1 + 1, 0, none⟩) (by simp; omega) _).setCell (p := ⟨w.heap.size + 1 + 1, 1, none⟩) (by simp; omega) _
      · have m1 := H1.out
        have m2 := H2.out
        have m3 := H3.out
        unfold Pure.okCargo at m1
        unfold Pure.okDraw at m2
        unfold Pure.okIn at m3
        simp only [decide_eq_true_eq] at m1 m2 m3
        obtain ⟨b1, b2, b3, b4, b5⟩ := m1
        obtain ⟨x0, x1, y0, y1⟩ := m2
        obtain ⟨d0, d1⟩ := m3
        go_wp2_with fail
        have xx0 := among_below e0
        have yy0 := among_below g0
        have yy1 := among_below g1
        have R0 := Lib.hid z0
        have R1 := Lib.hid z1
        have F0 := Lib.hid f0
        have F1 := Lib.hid f1
        clear e0 e1 e2 g0 g1 z0 z1 f0 f1
        have HC1 : Hid (∀ xq : Among (Below w3.heap.size w3), Calls Try.prog 25 #[.int .i64 b, .int .i64 d, .int .i64 x, .int .i64 y] xq.val fun e w' => e = .returned (.int .i64 (Pure.few b d x y)) ∧ ∃ y : Among (Below w3.heap.size w3), w' = y.val) :=
          Lib.hid (fun xq => calls_class ((rFewB (show 0 ≤ b by omega) b2 (show 0 ≤ d by omega) (by omega) x0 x1 y0 y1 (Lib.hid rfl) xq.val).mono fun e w' h => ⟨h.1, xq.ok.trans (h.2.mono xq.ok.size)⟩))
        have HC2 : Hid (∀ xq : Among (Below w3.heap.size w3), Calls Try.prog 26 #[.int .i64 b, .int .i64 x] xq.val fun e w' => e = .returned (.int .i64 (Pure.sets b x)) ∧ ∃ y : Among (Below w3.heap.size w3), w' = y.val) :=
          Lib.hid (fun xq => calls_class ((choose_any b x b2 xq.val).mono fun e w' h => ⟨h.1, h.2 ▸ xq.ok⟩))
        have HC3 : Hid (∀ xq : Among (Below w3.heap.size w3), Calls Try.prog 24 #[.int .i64 (Pure.few b d x y), .int .i64 (Pure.sets b x)] xq.val fun e w' => e = .returned (partV (Pure.few b d x y) (Pure.sets b x)) ∧ ∃ y : Among (Below w3.heap.size w3), w' = y.val) :=
          Lib.hid (fun xq => calls_class ((rLeast_any _ _ Pure.few_nonneg (Int.le_trans (Pure.few_le_all (by omega) (by omega) x0 y0 y1) (Int.le_trans (Pure.sets_le b2) (by decide))) (Pure.sets_pos x0 x1) (Int.le_trans (Pure.sets_le b2) (by decide)) xq.val).mono fun e w' h => ⟨h.1, xq.ok.trans (h.2.mono xq.ok.size)⟩))
        have HSt : Hid (Below w3.heap.size w3 w3.drew) := Lib.hid (Below.refl _ _).drew
        have hne : Nonempty (Among (Below w3.heap.size w3)) := ⟨⟨_, HSt.out⟩⟩
        refine wp_region_tail 14 (Below w3.heap.size w3) (by kernel_rfl) (by kernel_rfl) HSt.out ?_
        simp only [List.take_succ_cons, List.take_zero, List.drop_succ_cons, List.drop_zero]
        repeat (go_big_quiet_step ((first | (go_at_call 25; exact HC1.out _) | (go_at_call 26; exact HC2.out _) | (go_at_call 24; exact HC3.out _))))
        refine wpQuiet_nil ?_
        intro w4 hx
        have hB4 := among_out hx
        clear hx
        have r0 := below_cell hB4 R0.out
        have r1 := below_cell hB4 R1.out
        have f0 := below_frozen hB4 R0.out F0.out
        have f1 := below_frozen hB4 R1.out F1.out
        have HB4 := Lib.hid hB4
        clear hB4 hne xx0 yy0 yy1
        go_wp2_with fail
        refine bodyPost_ret (v := .tuple #[partV (Pure.few b d x y) (Pure.sets b x), .int .i64 0]) (by simp [results, Try.results5, go_sem, r0, r1]) rfl ⟨?_, ?_⟩
        · rw [H1.out, H2.out, H3.out, Pure.first3_true _ _ _ rfl rfl rfl, Pure.res2_zero rfl]
        · exact ((below_thn HB3.out HB4.out).setCell (p := ⟨w.heap.size + 1 + 1, 0, none⟩) (by simp; omega) _).setCell (p := ⟨w.heap.size + 1 + 1, 1, none⟩) (by simp; omega) _
set_option maxHeartbeats 2000000 in
set_option maxRecDepth 100000 in
theorem rFine_any (b lo hi x y good bad p q r s : Int) (b1 : 1 ≤ b) (b2 : b ≤ 36) (x0 : 0 ≤ x) (x1 : x ≤ b) (y0 : 0 ≤ y) (y1 : y ≤ x) (g0 : 0 ≤ good) (g1 : good ≤ b) (k0 : 0 ≤ bad) (k1 : bad ≤ b) (p0 : 0 ≤ p) (p1 : p ≤ 1000) (q0 : 1 ≤ q) (q1 : q ≤ 1000) (r0 : 0 ≤ r) (r1 : r ≤ 1000) (s0 : 1 ≤ s) (s1 : s ≤ 1000) (w : World) :
    Calls Try.prog 34 #[cargoV b lo hi, .agg #[.int .i64 x, .int .i64 y], .int .i64 good, .int .i64 bad, .agg #[.int .i64 p, .int .i64 q], .agg #[.int .i64 r, .int .i64 s]] w fun e w' => e = .returned (.bool (Pure.okRule b good bad p q r s (x, y))) ∧ Below w.heap.size w w' := by
  obtain ⟨S, hS⟩ : ∃ S, Pure.sets b x = S := ⟨_, rfl⟩
  obtain ⟨M, hM⟩ : ∃ M, Pure.few b good x y = M := ⟨_, rfl⟩
  obtain ⟨N, hN⟩ : ∃ N, Pure.few b bad x y = N := ⟨_, rfl⟩
  have S0 : 0 < S := by rw [← hS]; exact Pure.sets_pos x0 x1
  have S1 : S ≤ 68719476736 := by rw [← hS]; exact Pure.sets_le b2
  have M0 : 0 ≤ M := by rw [← hM]; exact Pure.few_nonneg
  have N0 : 0 ≤ N := by rw [← hN]; exact Pure.few_nonneg
  have M1 : M ≤ S := by rw [← hM, ← hS]; exact Pure.few_le_all g0 g1 x0 y0 y1
  have N1 : N ≤ S := by rw [← hN, ← hS]; exact Pure.few_le_all k0 k1 x0 y0 y1
  have HR : Hid (Pure.okRule b good bad p q r s (x, y) = (decide ((S - M) * q ≤ S * p) && decide (N * s ≤ S * r))) := Lib.hid (by
    unfold Pure.okRule Pure.sellerOk Pure.buyerOk
    rw [hS, hM, hN, Int.mul_comm p, Int.mul_comm r])
  have HS := Lib.hid hS
  have HM := Lib.hid hM
  have HN := Lib.hid hN
  clear hS hM hN
  go_enter Try.func34, Try.ntmps34
  go_wp2_with fail
  obtain ⟨W1, hW1⟩ : ∃ v, (((w.alloc (.cells #[.int .i64 b, .int .i64 lo, .int .i64 hi] 25)).alloc (.cells #[.int .i64 x, .int .i64 y] 27)).alloc (.cells #[.int .i64 p, .int .i64 q] 31)).alloc (.cells #[.int .i64 r, .int .i64 s] 31) = v := ⟨_, rfl⟩
  have hc : W1.heap[w.heap.size]? = some (.cells #[.int .i64 b, .int .i64 lo, .int .i64 hi] 25) := by rw [← hW1]; exact heap_up (heap_up (heap_up (heap_top w _ rfl) _) _) _
  have hr : W1.heap[w.heap.size + 1]? = some (.cells #[.int .i64 x, .int .i64 y] 27) := by rw [← hW1]; exact heap_up (heap_up (heap_top _ _ (by simp)) _) _
  have hp : W1.heap[w.heap.size + 1 + 1]? = some (.cells #[.int .i64 p, .int .i64 q] 31) := by rw [← hW1]; exact heap_up (heap_top _ _ (by simp)) _
  have hq : W1.heap[w.heap.size + 1 + 1 + 1]? = some (.cells #[.int .i64 r, .int .i64 s] 31) := by rw [← hW1]; exact heap_top _ _ (by simp)
  have hb : Below w.heap.size w W1 := by rw [← hW1]; exact ((((Below.refl _ _).alloc (Nat.le_refl _) _).alloc (by simp) _).alloc (by simp; omega) _).alloc (by simp; omega) _
  rw [hW1]
  have HB := Lib.hid hb
  have HC := Lib.hid hc
  have HRB := Lib.hid hr
  have HP := Lib.hid hp
  have HQ := Lib.hid hq
  clear hW1 hb hc hr hp hq
  refine (choose_any b x b2 _).mono ?_
  rw [HS.out]
  rintro e w' ⟨rfl, rfl⟩
  go_wp2_with fail
  have t1 : IntKind.i64.wrap (S - M) = S - M := IntWalk.i64_in _ (by omega)
  have xx0 : ∀ xq : Among (Below W1.heap.size W1), xq.val.cell? ⟨w.heap.size, 0, none⟩ = some (.int .i64 b) := fun xq => below_cell xq.ok (heap_cell HC.out (j := 0) rfl)
  have xx1 : ∀ xq : Among (Below W1.heap.size W1), xq.val.cell? ⟨(w.heap.size + 1), 0, none⟩ = some (.int .i64 x) := fun xq => below_cell xq.ok (heap_cell HRB.out (j := 0) rfl)
  have xx2 : ∀ xq : Among (Below W1.heap.size W1), xq.val.cell? ⟨(w.heap.size + 1), 1, none⟩ = some (.int .i64 y) := fun xq => below_cell xq.ok (heap_cell HRB.out (j := 1) rfl)
  have HD1 : Hid (∀ xq : Among (Below W1.heap.size W1), Calls Try.prog 25 #[.int .i64 b, .int .i64 good, .int .i64 x, .int .i64 y] xq.val fun e w' => e = .returned (.int .i64 M) ∧ ∃ y : Among (Below W1.heap.size W1), w' = y.val) := Lib.hid (fun xq => calls_class ((rFewB (show 0 ≤ b by omega) b2 g0 g1 x0 x1 y0 y1 HM xq.val).mono fun e w' h => ⟨h.1, xq.ok.trans (h.2.mono xq.ok.size)⟩))
  have HD2 : Hid (∀ xq : Among (Below W1.heap.size W1), Calls Try.prog 25 #[.int .i64 b, .int .i64 bad, .int .i64 x, .int .i64 y] xq.val fun e w' => e = .returned (.int .i64 N) ∧ ∃ y : Among (Below W1.heap.size W1), w' = y.val) := Lib.hid (fun xq => calls_class ((rFewB (show 0 ≤ b by omega) b2 k0 k1 x0 x1 y0 y1 HN xq.val).mono fun e w' h => ⟨h.1, xq.ok.trans (h.2.mono xq.ok.size)⟩))
  have HSt : Hid (Below W1.heap.size W1 W1.drew) := Lib.hid (Below.refl _ _).drew
  have hne : Nonempty (Among (Below W1.heap.size W1)) := ⟨⟨_, HSt.out⟩⟩
  refine wp_region_class (Below W1.heap.size W1) (by kernel_rfl) (by kernel_rfl) HSt.out ?_
  repeat (go_big_quiet_step ((first | (go_at_call 25; first | with_reducible exact HD1.out _ | with_reducible exact HD2.out _))))
  refine wpQuiet_nil ?_
  intro w8 hx
  have hB8 := among_out hx
  clear hx
  have HB8 := Lib.hid hB8
  clear hB8 hne xx0 xx1 xx2
  clear t1
  have e0 := heap_cell (heap_lft HP.out HB8.out) (j := 0) rfl
  have e1 := heap_cell (heap_lft HP.out HB8.out) (j := 1) rfl
  have j0 := heap_cell (heap_lft HQ.out HB8.out) (j := 0) rfl
  have j1 := heap_cell (heap_lft HQ.out HB8.out) (j := 1) rfl
  have u0 : 0 ≤ (S - M) * q := Int.mul_nonneg (by omega) (by omega)
  have u1 : (S - M) * q ≤ 68719476736000 := Int.le_trans (Int.mul_le_mul (show S - M ≤ 68719476736 by omega) q1 (by omega) (by decide)) (by decide)
  have u2 : 0 ≤ S * p := Int.mul_nonneg (by omega) p0
  have u3 : S * p ≤ 68719476736000 := Int.le_trans (Int.mul_le_mul S1 p1 p0 (by decide)) (by decide)
  have u4 : 0 ≤ S * r := Int.mul_nonneg (by omega) r0
  have u5 : S * r ≤ 68719476736000 := Int.le_trans (Int.mul_le_mul S1 r1 r0 (by decide)) (by decide)
  have u6 : 0 ≤ N * s := Int.mul_nonneg N0 (by omega)
  have u7 : N * s ≤ 68719476736000 := Int.le_trans (Int.mul_le_mul (show N ≤ 68719476736 by omega) s1 (by omega) (by decide)) (by decide)
  by_cases hA : (S - M) * q ≤ S * p
  · by_cases hB' : N * s ≤ S * r
    · go_wp2_with fail
      go_ret
      exact ⟨ret_bool (by rw [HR.out]; simp [hA, hB']), below_thn HB.out HB8.out⟩
    · go_wp2_with fail
      go_ret
      exact ⟨ret_bool (by rw [HR.out]; simp [hB']), below_thn HB.out HB8.out⟩
  · go_wp2_with fail
    go_ret
    exact ⟨ret_bool (by rw [HR.out, decide_eq_false (show ¬ (S - M) * q ≤ S * p by omega)]; rfl), below_thn HB.out HB8.out⟩
namespace Pure
theorem firstL_cons (a : Int) (l : List Int) : firstL (a :: l) = if a = 0 then firstL l else a := by
  unfold firstL
  by_cases h : a = 0
  · simp [h]
  · simp [h]
def riskE (lo hi good bad p q r s : Int) : Int := firstL [err (okIn lo hi good && okIn lo hi bad) 2, err (okParts 2 (two p r) (two q s)) 12, err (decide (good < bad)) 2]
theorem okParts_both (p q r s : Int) : okParts 2 (two p r) (two q s) = (okParts 1 (fun _ => p) (fun _ => q) && okParts 1 (fun _ => r) (fun _ => s)) := by
  unfold okParts
  rw [Bool.eq_iff_iff]
  simp only [Bool.and_eq_true, decide_eq_true_eq]
  constructor
  · intro h
    exact ⟨fun j _ => h 0 (by decide), fun j _ => h 1 (by decide)⟩
  · rintro ⟨h1, h2⟩ j hj
    have hj2 : j = 0 ∨ j = 1 := by omega
    rcases hj2 with rfl | rfl
    · exact h1 0 (by decide)
    · exact h2 0 (by decide)
end Pure

set_option maxHeartbeats 2000000 in
set_option maxRecDepth 100000 in
theorem rRisked_any (b lo hi good bad p q r s : Int) (w : World) :
    Calls Try.prog 33 #[cargoV b lo hi, .int .i64 good, .int .i64 bad, .agg #[.int .i64 p, .int .i64 q], .agg #[.int .i64 r, .int .i64 s]] w fun e w' => e = .returned (.int .i64 (Pure.riskE lo hi good bad p q r s)) ∧ Below w.heap.size w w' := by
  obtain ⟨k1, h1⟩ : ∃ z, Pure.okIn lo hi good = z := ⟨_, rfl⟩
  obtain ⟨k2, h2⟩ : ∃ z, Pure.okIn lo hi bad = z := ⟨_, rfl⟩
  obtain ⟨k3, h3⟩ : ∃ z, Pure.okParts 1 (fun _ => p) (fun _ => q) = z := ⟨_, rfl⟩
  obtain ⟨k4, h4⟩ : ∃ z, Pure.okParts 1 (fun _ => r) (fun _ => s) = z := ⟨_, rfl⟩
  have HE : Hid (Pure.riskE lo hi good bad p q r s = Pure.firstL [Pure.err (k1 && k2) 2, Pure.err (k3 && k4) 12, Pure.err (decide (good < bad)) 2]) := Lib.hid (by unfold Pure.riskE; rw [Pure.okParts_both, h1, h2, h3, h4])
  have H1 := Lib.hid h1
  have H2 := Lib.hid h2
  have H3 := Lib.hid h3
  have H4 := Lib.hid h4
  clear h1 h2 h3 h4
  go_enter Try.func33, Try.ntmps33
  go_wp2_with fail
  obtain ⟨W1, hW1⟩ : ∃ v, ((w.alloc (.cells #[.int .i64 b, .int .i64 lo, .int .i64 hi] 25)).alloc (.cells #[.int .i64 p, .int .i64 q] 31)).alloc (.cells #[.int .i64 r, .int .i64 s] 31) = v := ⟨_, rfl⟩
  have HA : Hid (W1.heap[w.heap.size]? = some (.cells #[.int .i64 b, .int .i64 lo, .int .i64 hi] 25) ∧ W1.heap[w.heap.size + 1]? = some (.cells #[.int .i64 p, .int .i64 q] 31) ∧ W1.heap[w.heap.size + 1 + 1]? = some (.cells #[.int .i64 r, .int .i64 s] 31)) := by rw [← hW1]; exact Lib.hid ⟨heap_up (heap_up (heap_top w _ rfl) _) _, heap_up (heap_top _ _ (by simp)) _, heap_top _ _ (by simp)⟩
  have HB : Hid (Below w.heap.size w W1) := by rw [← hW1]; exact Lib.hid ((((Below.refl _ _).alloc (Nat.le_refl _) _).alloc (by simp; try omega) _).alloc (by simp; try omega) _)
  rw [hW1]
  clear hW1
  refine (rMay_any b lo hi good _).mono ?_
  rintro e w' ⟨rfl, hw1⟩
  obtain ⟨HA1, HB1⟩ : Hid (w'.heap[w.heap.size]? = some (.cells #[.int .i64 b, .int .i64 lo, .int .i64 hi] 25) ∧ w'.heap[w.heap.size + 1]? = some (.cells #[.int .i64 p, .int .i64 q] 31) ∧ w'.heap[w.heap.size + 1 + 1]? = some (.cells #[.int .i64 r, .int .i64 s] 31)) ∧ Hid (Below w.heap.size w w') := by
    rw [hw1]
    have hb := (Below.refl W1.heap.size W1).alloc (Nat.le_refl _) (.cells #[.int .i64 b, .int .i64 lo, .int .i64 hi] 25)
    exact ⟨Lib.hid ⟨heap_lft HA.out.1 hb, heap_lft HA.out.2.1 hb, heap_lft HA.out.2.2 hb⟩, Lib.hid (below_thn HB.out hb)⟩
  clear hw1
  obtain ⟨w1, rfl⟩ : ∃ v, v = w' := ⟨_, rfl⟩
  rw [H1.out]
  have e0 := heap_cell HA1.out.1 (j := 0) rfl
  have e1 := heap_cell HA1.out.1 (j := 1) rfl
  have e2 := heap_cell HA1.out.1 (j := 2) rfl
  have g0 := heap_cell HA1.out.2.1 (j := 0) rfl
  have g1 := heap_cell HA1.out.2.1 (j := 1) rfl
  have j0 := heap_cell HA1.out.2.2 (j := 0) rfl
  have j1 := heap_cell HA1.out.2.2 (j := 1) rfl
  cases k1
  · go_wp2_with fail
    go_ret
    exact ⟨ret_int (by rw [HE.out]; rfl), HB1.out⟩
  · go_wp2_with fail
    clear e0 e1 e2 g0 g1 j0 j1
    refine (rMay_any b lo hi bad _).mono ?_
    rintro e w' ⟨rfl, hw1⟩
    obtain ⟨HA2, HB2⟩ : Hid (w'.heap[w.heap.size]? = some (.cells #[.int .i64 b, .int .i64 lo, .int .i64 hi] 25) ∧ w'.heap[w.heap.size + 1]? = some (.cells #[.int .i64 p, .int .i64 q] 31) ∧ w'.heap[w.heap.size + 1 + 1]? = some (.cells #[.int .i64 r, .int .i64 s] 31)) ∧ Hid (Below w.heap.size w w') := by
      rw [hw1]
      have hb := (Below.refl w1.heap.size w1).alloc (Nat.le_refl _) (.cells #[.int .i64 b, .int .i64 lo, .int .i64 hi] 25)
      exact ⟨Lib.hid ⟨heap_lft HA1.out.1 hb, heap_lft HA1.out.2.1 hb, heap_lft HA1.out.2.2 hb⟩, Lib.hid (below_thn HB1.out hb)⟩
    clear hw1
    obtain ⟨w2, rfl⟩ : ∃ v, v = w' := ⟨_, rfl⟩
    rw [H2.out]
    have e0 := heap_cell HA2.out.1 (j := 0) rfl
    have e1 := heap_cell HA2.out.1 (j := 1) rfl
    have e2 := heap_cell HA2.out.1 (j := 2) rfl
    have g0 := heap_cell HA2.out.2.1 (j := 0) rfl
    have g1 := heap_cell HA2.out.2.1 (j := 1) rfl
    have j0 := heap_cell HA2.out.2.2 (j := 0) rfl
    have j1 := heap_cell HA2.out.2.2 (j := 1) rfl
    cases k2
    · go_wp2_with fail
      go_ret
      exact ⟨ret_int (by rw [HE.out]; rfl), HB2.out⟩
    · go_wp2_with fail
      clear e0 e1 e2 g0 g1 j0 j1
      refine (rGiven_any p q _).mono ?_
      rintro e w' ⟨rfl, hw1⟩
      obtain ⟨HA3, HB3⟩ : Hid (w'.heap[w.heap.size]? = some (.cells #[.int .i64 b, .int .i64 lo, .int .i64 hi] 25) ∧ w'.heap[w.heap.size + 1]? = some (.cells #[.int .i64 p, .int .i64 q] 31) ∧ w'.heap[w.heap.size + 1 + 1]? = some (.cells #[.int .i64 r, .int .i64 s] 31)) ∧ Hid (Below w.heap.size w w') := by
        have hb := hw1
        exact ⟨Lib.hid ⟨heap_lft HA2.out.1 hb, heap_lft HA2.out.2.1 hb, heap_lft HA2.out.2.2 hb⟩, Lib.hid (below_thn HB2.out hb)⟩
      clear hw1
      obtain ⟨w3, rfl⟩ : ∃ v, v = w' := ⟨_, rfl⟩
      rw [H3.out]
      have e0 := heap_cell HA3.out.1 (j := 0) rfl
      have e1 := heap_cell HA3.out.1 (j := 1) rfl
      have e2 := heap_cell HA3.out.1 (j := 2) rfl
      have g0 := heap_cell HA3.out.2.1 (j := 0) rfl
      have g1 := heap_cell HA3.out.2.1 (j := 1) rfl
      have j0 := heap_cell HA3.out.2.2 (j := 0) rfl
      have j1 := heap_cell HA3.out.2.2 (j := 1) rfl
      cases k3
      · go_wp2_with fail
        go_ret
        exact ⟨ret_int (by rw [HE.out]; rfl), HB3.out⟩
      · go_wp2_with fail
        clear e0 e1 e2 g0 g1 j0 j1
        refine (rGiven_any r s _).mono ?_
        rintro e w' ⟨rfl, hw1⟩
        obtain ⟨HA4, HB4⟩ : Hid (w'.heap[w.heap.size]? = some (.cells #[.int .i64 b, .int .i64 lo, .int .i64 hi] 25) ∧ w'.heap[w.heap.size + 1]? = some (.cells #[.int .i64 p, .int .i64 q] 31) ∧ w'.heap[w.heap.size + 1 + 1]? = some (.cells #[.int .i64 r, .int .i64 s] 31)) ∧ Hid (Below w.heap.size w w') := by
          have hb := hw1
          exact ⟨Lib.hid ⟨heap_lft HA3.out.1 hb, heap_lft HA3.out.2.1 hb, heap_lft HA3.out.2.2 hb⟩, Lib.hid (below_thn HB3.out hb)⟩
        clear hw1
        obtain ⟨w4, rfl⟩ : ∃ v, v = w' := ⟨_, rfl⟩
        rw [H4.out]
        have e0 := heap_cell HA4.out.1 (j := 0) rfl
        have e1 := heap_cell HA4.out.1 (j := 1) rfl
        have e2 := heap_cell HA4.out.1 (j := 2) rfl
        have g0 := heap_cell HA4.out.2.1 (j := 0) rfl
        have g1 := heap_cell HA4.out.2.1 (j := 1) rfl
        have j0 := heap_cell HA4.out.2.2 (j := 0) rfl
        have j1 := heap_cell HA4.out.2.2 (j := 1) rfl
        cases k4
        · go_wp2_with fail
          go_ret
          exact ⟨ret_int (by rw [HE.out]; rfl), HB4.out⟩
        · by_cases hg : good < bad
          · go_wp2_with fail
            go_ret
            exact ⟨ret_int (by rw [HE.out, decide_eq_true hg]; rfl), HB4.out⟩
          · go_wp2_with fail
            go_ret
            exact ⟨ret_int (by rw [HE.out, decide_eq_false (by omega)]; rfl), HB4.out⟩

set_option maxHeartbeats 2000000 in
set_option maxRecDepth 100000 in
theorem rGood_any (b lo hi x y good bad p q r s : Int) (w : World) :
    Calls Try.prog 10 #[cargoV b lo hi, .agg #[.int .i64 x, .int .i64 y], .int .i64 good, .int .i64 bad, .agg #[.int .i64 p, .int .i64 q], .agg #[.int .i64 r, .int .i64 s]] w fun e w' => e = .returned (.tuple #[.bool (Pure.goodV b lo hi x y good bad p q r s), .int .i64 (Pure.goodE b lo hi x y good bad p q r s)]) ∧ Below w.heap.size w w' := by
  obtain ⟨k1, h1⟩ : ∃ z, Pure.okCargo b lo hi = z := ⟨_, rfl⟩
  obtain ⟨k2, h2⟩ : ∃ z, Pure.okDraw b x y = z := ⟨_, rfl⟩
  obtain ⟨k3, h3⟩ : ∃ z, Pure.riskE lo hi good bad p q r s = z := ⟨_, rfl⟩
  have HE : Hid (Pure.goodE b lo hi x y good bad p q r s = if k1 then (if k2 then k3 else 13) else 10) := Lib.hid (by
    unfold Pure.goodE
    rw [Pure.firstL_cons, Pure.firstL_cons, h1, h2]
    show (if Pure.err k1 10 = 0 then if Pure.err k2 13 = 0 then Pure.riskE lo hi good bad p q r s else Pure.err k2 13 else Pure.err k1 10) = _
    rw [h3]
    cases k1 <;> cases k2 <;> rfl)
  have H1 := Lib.hid h1
  have H2 := Lib.hid h2
  have H3 := Lib.hid h3
  clear h1 h2 h3
  go_enter Try.func10, Try.ntmps10
  go_wp2_with fail
  obtain ⟨W1, hW1⟩ : ∃ v, (((w.alloc (.cells #[.int .i64 b, .int .i64 lo, .int .i64 hi] 25)).alloc (.cells #[.int .i64 x, .int .i64 y] 27)).alloc (.cells #[.int .i64 p, .int .i64 q] 31)).alloc (.cells #[.int .i64 r, .int .i64 s] 31) = v := ⟨_, rfl⟩
  have HA : Hid (W1.heap[w.heap.size]? = some (.cells #[.int .i64 b, .int .i64 lo, .int .i64 hi] 25) ∧ W1.heap[w.heap.size + 1]? = some (.cells #[.int .i64 x, .int .i64 y] 27) ∧ W1.heap[w.heap.size + 1 + 1]? = some (.cells #[.int .i64 p, .int .i64 q] 31) ∧ W1.heap[w.heap.size + 1 + 1 + 1]? = some (.cells #[.int .i64 r, .int .i64 s] 31)) := by rw [← hW1]; exact Lib.hid ⟨heap_up (heap_up (heap_up (heap_top w _ rfl) _) _) _, heap_up (heap_up (heap_top _ _ (by simp)) _) _, heap_up (heap_top _ _ (by simp)) _, heap_top _ _ (by simp)⟩
  have HB : Hid (Below w.heap.size w W1) := by rw [← hW1]; exact Lib.hid (((((Below.refl _ _).alloc (Nat.le_refl _) _).alloc (by simp; try omega) _).alloc (by simp; try omega) _).alloc (by simp; try omega) _)
  rw [hW1]
  clear hW1
  refine (rCargo_any b lo hi _).mono ?_
  rintro e w' ⟨rfl, hw1⟩
  obtain ⟨HA1, HB1⟩ : Hid (w'.heap[w.heap.size]? = some (.cells #[.int .i64 b, .int .i64 lo, .int .i64 hi] 25) ∧ w'.heap[w.heap.size + 1]? = some (.cells #[.int .i64 x, .int .i64 y] 27) ∧ w'.heap[w.heap.size + 1 + 1]? = some (.cells #[.int .i64 p, .int .i64 q] 31) ∧ w'.heap[w.heap.size + 1 + 1 + 1]? = some (.cells #[.int .i64 r, .int .i64 s] 31)) ∧ Hid (Below w.heap.size w w') := by
    rw [hw1]
    have hb := (Below.refl W1.heap.size W1).alloc (Nat.le_refl _) (.cells #[.int .i64 b, .int .i64 lo, .int .i64 hi] 25)
    exact ⟨Lib.hid ⟨heap_lft HA.out.1 hb, heap_lft HA.out.2.1 hb, heap_lft HA.out.2.2.1 hb, heap_lft HA.out.2.2.2 hb⟩, Lib.hid (below_thn HB.out hb)⟩
  clear hw1
  obtain ⟨w1, rfl⟩ : ∃ v, v = w' := ⟨_, rfl⟩
  rw [H1.out]
  have e0 := heap_cell HA1.out.1 (j := 0) rfl
  have e1 := heap_cell HA1.out.1 (j := 1) rfl
  have e2 := heap_cell HA1.out.1 (j := 2) rfl
  have h0 := heap_cell HA1.out.2.1 (j := 0) rfl
  have h1 := heap_cell HA1.out.2.1 (j := 1) rfl
  have g0 := heap_cell HA1.out.2.2.1 (j := 0) rfl
  have g1 := heap_cell HA1.out.2.2.1 (j := 1) rfl
  have j0 := heap_cell HA1.out.2.2.2 (j := 0) rfl
  have j1 := heap_cell HA1.out.2.2.2 (j := 1) rfl
  cases k1
  · go_wp2_with fail
    refine bodyPost_ret (v := .tuple #[.bool false, .int .i64 10]) (by simp [results, Try.results10, go_sem]) rfl ⟨?_, HB1.out⟩
    unfold Pure.goodV
    rw [HE.out]
    rfl
  · go_wp2_with fail
    clear e0 e1 e2 h0 h1 g0 g1 j0 j1
    refine (rRule_any b lo hi x y _).mono ?_
    rintro e w' ⟨rfl, hw1⟩
    obtain ⟨HA2, HB2⟩ : Hid (w'.heap[w.heap.size]? = some (.cells #[.int .i64 b, .int .i64 lo, .int .i64 hi] 25) ∧ w'.heap[w.heap.size + 1]? = some (.cells #[.int .i64 x, .int .i64 y] 27) ∧ w'.heap[w.heap.size + 1 + 1]? = some (.cells #[.int .i64 p, .int .i64 q] 31) ∧ w'.heap[w.heap.size + 1 + 1 + 1]? = some (.cells #[.int .i64 r, .int .i64 s] 31)) ∧ Hid (Below w.heap.size w w') := by
      rw [hw1]
      have hb := ((Below.refl w1.heap.size w1).alloc (Nat.le_refl _) (.cells #[.int .i64 b, .int .i64 lo, .int .i64 hi] 25)).alloc (by simp) (.cells #[.int .i64 x, .int .i64 y] 27)
      exact ⟨Lib.hid ⟨heap_lft HA1.out.1 hb, heap_lft HA1.out.2.1 hb, heap_lft HA1.out.2.2.1 hb, heap_lft HA1.out.2.2.2 hb⟩, Lib.hid (below_thn HB1.out hb)⟩
    clear hw1
    obtain ⟨w2, rfl⟩ : ∃ v, v = w' := ⟨_, rfl⟩
    rw [H2.out]
    have e0 := heap_cell HA2.out.1 (j := 0) rfl
    have e1 := heap_cell HA2.out.1 (j := 1) rfl
    have e2 := heap_cell HA2.out.1 (j := 2) rfl
    have h0 := heap_cell HA2.out.2.1 (j := 0) rfl
    have h1 := heap_cell HA2.out.2.1 (j := 1) rfl
    have g0 := heap_cell HA2.out.2.2.1 (j := 0) rfl
    have g1 := heap_cell HA2.out.2.2.1 (j := 1) rfl
    have j0 := heap_cell HA2.out.2.2.2 (j := 0) rfl
    have j1 := heap_cell HA2.out.2.2.2 (j := 1) rfl
    cases k2
    · go_wp2_with fail
      refine bodyPost_ret (v := .tuple #[.bool false, .int .i64 13]) (by simp [results, Try.results10, go_sem]) rfl ⟨?_, HB2.out⟩
      unfold Pure.goodV
      rw [HE.out]
      rfl
    · go_wp2_with fail
      clear e0 e1 e2 h0 h1 g0 g1 j0 j1
      refine (rRisked_any b lo hi good bad p q r s _).mono ?_
      rintro e w' ⟨rfl, hw1⟩
      obtain ⟨HA3, HB3⟩ : Hid (w'.heap[w.heap.size]? = some (.cells #[.int .i64 b, .int .i64 lo, .int .i64 hi] 25) ∧ w'.heap[w.heap.size + 1]? = some (.cells #[.int .i64 x, .int .i64 y] 27) ∧ w'.heap[w.heap.size + 1 + 1]? = some (.cells #[.int .i64 p, .int .i64 q] 31) ∧ w'.heap[w.heap.size + 1 + 1 + 1]? = some (.cells #[.int .i64 r, .int .i64 s] 31)) ∧ Hid (Below w.heap.size w w') := by
        have hb := hw1
        exact ⟨Lib.hid ⟨heap_lft HA2.out.1 hb, heap_lft HA2.out.2.1 hb, heap_lft HA2.out.2.2.1 hb, heap_lft HA2.out.2.2.2 hb⟩, Lib.hid (below_thn HB2.out hb)⟩
      clear hw1
      obtain ⟨w3, rfl⟩ : ∃ v, v = w' := ⟨_, rfl⟩
      rw [H3.out]
      have e0 := heap_cell HA3.out.1 (j := 0) rfl
      have e1 := heap_cell HA3.out.1 (j := 1) rfl
      have e2 := heap_cell HA3.out.1 (j := 2) rfl
      have h0 := heap_cell HA3.out.2.1 (j := 0) rfl
      have h1 := heap_cell HA3.out.2.1 (j := 1) rfl
      have g0 := heap_cell HA3.out.2.2.1 (j := 0) rfl
      have g1 := heap_cell HA3.out.2.2.1 (j := 1) rfl
      have j0 := heap_cell HA3.out.2.2.2 (j := 0) rfl
      have j1 := heap_cell HA3.out.2.2.2 (j := 1) rfl
      by_cases hz : k3 = 0
      · have m1 := H1.out
        have m2 := H2.out
        have m3 := H3.out
        rw [hz] at m3
        unfold Pure.riskE at m3
        have m4 := Pure.firstL_zero m3
        have m5 := Pure.err_zero (m4 (Pure.err (Pure.okIn lo hi good && Pure.okIn lo hi bad) 2) (by simp)) (by decide)
        have m6 := Pure.err_zero (m4 (Pure.err (Pure.okParts 2 (Pure.two p r) (Pure.two q s)) 12) (by simp)) (by decide)
        rw [Bool.and_eq_true] at m5
        obtain ⟨m7, m8⟩ := Pure.okParts_two m6
        unfold Pure.okCargo at m1
        unfold Pure.okDraw at m2
        unfold Pure.okIn at m5
        simp only [decide_eq_true_eq] at m1 m2 m5
        obtain ⟨b1, b2, b3, b4, b5⟩ := m1
        obtain ⟨x0, x1, y0, y1⟩ := m2
        obtain ⟨⟨n1, n2⟩, n3, n4⟩ := m5
        clear m3 m4 m6
        subst hz
        go_wp2_with fail
        refine (rFine_any b lo hi x y good bad p q r s b1 b2 x0 x1 y0 y1 (by omega) (by omega) (by omega) (by omega) (by omega) (by omega) (by omega) (by omega) (by omega) (by omega) (by omega) (by omega) _).mono ?_
        rintro e w' ⟨rfl, hw1⟩
        go_wp2_with fail
        refine bodyPost_ret (v := .tuple #[.bool (Pure.okRule b good bad p q r s (x, y)), .int .i64 0]) (by simp [results, Try.results10, go_sem]) rfl ⟨?_, below_thn HB3.out hw1⟩
        unfold Pure.goodV
        rw [HE.out]
        simp
      · have hz' : (k3 != 0) = true := by simpa using hz
        have HZ := Lib.hid hz
        clear hz
        go_wp2_with fail
        refine bodyPost_ret (v := .tuple #[.bool false, .int .i64 k3]) (by simp [results, Try.results10, go_sem]) rfl ⟨?_, HB3.out⟩
        unfold Pure.goodV
        rw [HE.out]
        simp [HZ.out]


end Go.Proofs.Ytmhhfopiaimhbaa
