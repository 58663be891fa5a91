/-
  Plain mathematics: what the specification's own Twice reckons.
  The contract of the specification's own Twice.
-/
import Derived.Test.YtmhhfopiaimhbaaTwiceTop
import Derived.Test.YtmhhfopiaimhbaaRRules

namespace Go.Proofs.Ytmhhfopiaimhbaa
namespace Pure

/-- Whether a double rule takes its second bags behind j dirty ones, as a number. -/
def againF (a r j : Int) : Int := if again a r j then 1 else 0
theorem againF_nonneg (a r j : Int) : 0 ≤ againF a r j := by unfold againF; split <;> omega
theorem againF_le (a r j : Int) : againF a r j ≤ 1 := by unfold againF; split <;> omega
theorem sumTo_ups {b d o : Int} {f : Int → Int} (hf : ∀ j : Int, 0 ≤ f j) {m : Nat} : ∀ {n : Nat}, m ≤ n → sumTo b d o f m ≤ sumTo b d o f n
  | 0, h => by obtain rfl : m = 0 := by omega
               exact Int.le_refl _
  | n + 1, h => by
    by_cases e : m = n + 1
    · rw [e]; exact Int.le_refl _
    · have h1 := sumTo_ups hf (b := b) (d := d) (o := o) (m := m) (n := n) (by omega)
      have h2 : 0 ≤ ways b d o n * f n := Int.mul_nonneg (ways_nonneg _ _ _ _) (hf _)
      rw [sumTo_succ]
      omega
theorem sumTo_lin {b d o x y : Int} {g : Int → Int} : ∀ k : Nat, sumTo b d o (fun j => x + y * g j) k = x * sumTo b d o (fun _ => 1) k + y * sumTo b d o g k
  | 0 => by show 0 = x * 0 + y * 0; simp
  | k + 1 => by
    rw [sumTo_succ, sumTo_succ, sumTo_succ, sumTo_lin k, Int.mul_add, Int.mul_add, Int.mul_add, Int.mul_one]
    have e1 : x * ways b d o k = ways b d o k * x := Int.mul_comm _ _
    have e2 : y * (ways b d o k * g k) = ways b d o k * (y * g k) := by rw [← Int.mul_assoc, Int.mul_comm y, Int.mul_assoc]
    rw [e1, e2]
    omega
theorem sumTo_alike {b d o : Int} {f g : Int → Int} : ∀ k : Nat, (∀ j : Nat, j < k → f j = g j) → sumTo b d o f k = sumTo b d o g k
  | 0, _ => rfl
  | k + 1, h => by rw [sumTo_succ, sumTo_succ, sumTo_alike k (fun j hj => h j (by omega)), h k (by omega)]
/-- All sets, as a sum. -/
theorem sumTo_all {b d o : Int} (hd0 : 0 ≤ d) (hd : d ≤ b) (ho0 : 0 ≤ o) : sumTo b d o (fun _ => 1) (o + 1).toNat = sets b o := by
  have h3 : few b d o o = sets b o := by rw [few_eq ho0 (Int.le_refl _), fewTo_all hd0 hd ho0]
  rw [← h3]
  unfold few sum
  exact sumTo_alike _ (fun j hj => (ind_le (by omega)).symm)
/-- How many bags a double rule opens, by how many sets take their second bags. -/
theorem opens_by {b d x1 a r x2 : Int} (hd0 : 0 ≤ d) (hd : d ≤ b) (h1 : 0 ≤ x1) : opens b d x1 a r x2 = x1 * sets b x1 + x2 * sumTo b d x1 (againF a r) (x1 + 1).toNat := by
  rw [← sumTo_all hd0 hd h1, ← sumTo_lin]
  unfold opens sum
  exact sumTo_alike _ (fun j _ => by
    unfold opensF againF
    split
    · omega
    · omega)
theorem again_sum_le {b d x1 a r : Int} (hd0 : 0 ≤ d) (hd : d ≤ b) (h1 : 0 ≤ x1) {k : Nat} (hk : (k : Int) ≤ x1 + 1) : sumTo b d x1 (againF a r) k ≤ sets b x1 := by
  rw [← sumTo_all hd0 hd h1]
  exact Int.le_trans (sumTo_ups (againF_nonneg a r) (n := (x1 + 1).toNat) (by omega)) (sumTo_mono (n := (x1 + 1).toNat) (fun j _ => againF_le a r j) _ (Nat.le_refl _))
/-- few, for whatever bound. -/
theorem few_neg {b d o m : Int} (h : m < 0) : few b d o m = 0 := by
  unfold few sum
  have : ∀ n : Nat, sumTo b d o (ind m) n = 0 := by
    intro n
    induction n with
    | zero => rfl
    | succ n ih => rw [sumTo_succ, ih, ind_gt (by omega)]; simp
  exact this _
theorem ways_over {b d o j : Int} (h : o < j) : ways b d o j = 0 := by
  unfold ways
  rw [sets_none (n := b - d) (k := o - j) (.inl (by omega))]
  simp
theorem fewTo_over {b d o : Int} (ho : 0 ≤ o) : ∀ n : Nat, fewTo b d o ((o + 1).toNat + n) = fewTo b d o (o + 1).toNat
  | 0 => rfl
  | n + 1 => by
    rw [← Nat.add_assoc, fewTo_succ, fewTo_over ho n, ways_over (by omega)]
    omega
theorem few_any {b d o m : Int} (ho : 0 ≤ o) (hm : 0 ≤ m) : few b d o m = fewTo b d o (m + 1).toNat := by
  by_cases h : m ≤ o
  · exact few_eq hm h
  · have e : few b d o m = few b d o o := by
      unfold few sum
      exact sumTo_alike _ (fun j hj => by rw [ind_le (by omega), ind_le (by omega)])
    rw [e, few_eq ho (Int.le_refl _), show (m + 1).toNat = (o + 1).toNat + (m - o).toNat by omega, fewTo_over ho]
theorem takenF_far {b d x1 a r x2 t j : Int} (har : a + 1 ≤ r) (h : r ≤ j) : takenF b d x1 a r x2 t j = 0 := by
  refine takenF_zero (by omega) ?_
  unfold again
  rw [Bool.and_eq_false_iff, decide_eq_false_iff_not, decide_eq_false_iff_not]
  omega
end Pure
end Go.Proofs.Ytmhhfopiaimhbaa

namespace Go.Proofs.Ytmhhfopiaimhbaa
open Go.RowKit Go.Shelf

theorem chooseB {n k F : Int} (h36 : n ≤ 36) (h : Hid (Pure.sets n k = F)) (w : World) :
    Calls Try.prog 26 #[.int .i64 n, .int .i64 k] w fun e w' => e = .returned (.int .i64 F) ∧ Below w.heap.size w w' :=
  (choose_any n k h36 w).mono fun _ _ g => ⟨g.1.trans (by rw [h.out]), by rw [← g.2]; exact Below.refl _ _⟩
theorem leastB {n d : Int} {v : Value} (hn : 0 ≤ n) (hn1 : n ≤ 9223372036854775807) (hd : 0 < d) (hd1 : d ≤ 9223372036854775807) (h : Hid (partV n d = v)) (w : World) :
    Calls Try.prog 24 #[.int .i64 n, .int .i64 d] w fun e w' => e = .returned v ∧ Below w.heap.size w w' :=
  (rLeast_any n d hn hn1 hd hd1 w).mono fun _ _ g => ⟨g.1.trans (by rw [h.out]), g.2⟩
set_option maxHeartbeats 1000000 in
set_option maxRecDepth 100000 in
/-- few, of less than nothing. -/
theorem rFew_none (b d o f : Int) (hf : f < 0) (w : World) :
    Calls Try.prog 25 #[.int .i64 b, .int .i64 d, .int .i64 o, .int .i64 f] w fun e w' => e = .returned (.int .i64 0) ∧ w = w' := by
  go_enter Try.func25, Try.ntmps25
  go_wp2_with fail
  go_loop [9, 10] (fun s t => s = .int .i64 0 ∧ t = .int .i64 0) (fun _ _ => 0)
  case atStart => exact ⟨rfl, rfl⟩
  case round =>
    obtain ⟨rfl, rfl⟩ := hrel
    have hn : ¬ (0 : Int) ≤ f := by omega
    go_wp2_with fail
    go_ret
    exact ⟨rfl, rfl⟩
theorem rFewAny {b d o f F : Int} (hb0 : 0 ≤ b) (hb : b ≤ 36) (hd0 : -36 ≤ d) (hd : d ≤ 36) (hbd : b - d ≤ 36) (ho0 : 0 ≤ o) (ho : o ≤ 36) (hf : f ≤ 36) (h : Hid (Pure.few b d o f = F)) (w : World) :
    Calls Try.prog 25 #[.int .i64 b, .int .i64 d, .int .i64 o, .int .i64 f] w fun e w' => e = .returned (.int .i64 F) ∧ w = w' := by
  by_cases hn : f < 0
  · exact (rFew_none b d o f hn w).mono fun _ _ g => ⟨g.1.trans (by rw [← h.out, Pure.few_neg hn]), g.2⟩
  · exact (rFew_any b d o f hb0 hb hd0 hd hbd ho0 ho (by omega) hf w).mono fun _ _ g => ⟨g.1.trans (by rw [← h.out, Pure.few_any ho0 (by omega)]), g.2⟩
set_option maxHeartbeats 8000000 in
set_option maxRecDepth 100000 in
theorem rTwice_any (b lo hi x1 a r x2 t d : Int) (w : World) :
    Calls Try.prog 14 #[cargoV b lo hi, doubleV x1 a r x2 t, .int .i64 d] w fun e w' => e = .returned (Pure.twiceV b lo hi x1 a r x2 t d) ∧ Below w.heap.size w w' := by
  obtain ⟨k1, h1⟩ : ∃ z, Pure.okCargo b lo hi = z := ⟨_, rfl⟩
  obtain ⟨k2, h2⟩ : ∃ z, Pure.okDouble b x1 a r x2 t = z := ⟨_, rfl⟩
  obtain ⟨k3, h3⟩ : ∃ z, Pure.okIn lo hi d = z := ⟨_, rfl⟩
  have HE : Hid (Pure.twiceE b lo hi x1 a r x2 t d = Pure.first3 (Pure.err k1 10) (Pure.err k2 13) (Pure.err k3 2)) := Lib.hid (by unfold Pure.twiceE; rw [h1, h2, h3])
  have H1 := Lib.hid h1
  have H2 := Lib.hid h2
  have H3 := Lib.hid h3
  clear h1 h2 h3
  go_enter Try.func14, Try.ntmps14
  go_wp2_with fail
  obtain ⟨W1, hW1⟩ : ∃ v, (((w.alloc (.cells #[.int .i64 b, .int .i64 lo, .int .i64 hi] 25)).alloc (.cells #[.int .i64 x1, .int .i64 a, .int .i64 r, .int .i64 x2, .int .i64 t] 29)).alloc (.cells #[.int .i64 0, .int .i64 0] 31)).alloc (.cells #[.int .i64 0, .int .i64 0] 31) = v := ⟨_, rfl⟩
  have HA : Hid (W1.heap[w.heap.size]? = some (.cells #[.int .i64 b, .int .i64 lo, .int .i64 hi] 25) ∧ W1.heap[w.heap.size + 1]? = some (.cells #[.int .i64 x1, .int .i64 a, .int .i64 r, .int .i64 x2, .int .i64 t] 29) ∧ W1.heap[w.heap.size + 1 + 1]? = some (.cells #[.int .i64 0, .int .i64 0] 31) ∧ W1.heap[w.heap.size + 1 + 1 + 1]? = some (.cells #[.int .i64 0, .int .i64 0] 31)) := by rw [← hW1]; exact Lib.hid ⟨heap_up (heap_up (heap_up (heap_top w _ rfl) _) _) _, heap_up (heap_up (heap_top _ _ (by simp)) _) _, heap_up (heap_top _ _ (by simp)) _, heap_top _ _ (by simp)⟩
  have HB : Hid (Below w.heap.size w W1) := by rw [← hW1]; exact Lib.hid (((((Below.refl _ _).alloc (Nat.le_refl _) _).alloc (by simp; try omega) _).alloc (by simp; try omega) _).alloc (by simp; try omega) _)
  rw [hW1]
  clear hW1
  refine (rCargo_any b lo hi _).mono ?_
  rintro e w' ⟨rfl, hw1⟩
  obtain ⟨HA1, HB1⟩ : Hid (w'.heap[w.heap.size]? = some (.cells #[.int .i64 b, .int .i64 lo, .int .i64 hi] 25) ∧ w'.heap[w.heap.size + 1]? = some (.cells #[.int .i64 x1, .int .i64 a, .int .i64 r, .int .i64 x2, .int .i64 t] 29) ∧ w'.heap[w.heap.size + 1 + 1]? = some (.cells #[.int .i64 0, .int .i64 0] 31) ∧ w'.heap[w.heap.size + 1 + 1 + 1]? = some (.cells #[.int .i64 0, .int .i64 0] 31)) ∧ Hid (Below w.heap.size w w') := by
    rw [hw1]
    have hb := (Below.refl W1.heap.size W1).alloc (Nat.le_refl _) (.cells #[.int .i64 b, .int .i64 lo, .int .i64 hi] 25)
    exact ⟨Lib.hid ⟨heap_lft HA.out.1 hb, heap_lft HA.out.2.1 hb, heap_lft HA.out.2.2.1 hb, heap_lft HA.out.2.2.2 hb⟩, Lib.hid (below_thn HB.out hb)⟩
  clear hw1
  obtain ⟨w1, rfl⟩ : ∃ v, v = w' := ⟨_, rfl⟩
  rw [H1.out]
  have e0 := heap_cell HA1.out.1 (j := 0) rfl
  have e1 := heap_cell HA1.out.1 (j := 1) rfl
  have e2 := heap_cell HA1.out.1 (j := 2) rfl
  have g0 := heap_cell HA1.out.2.1 (j := 0) rfl
  have g1 := heap_cell HA1.out.2.1 (j := 1) rfl
  have g2 := heap_cell HA1.out.2.1 (j := 2) rfl
  have g3 := heap_cell HA1.out.2.1 (j := 3) rfl
  have g4 := heap_cell HA1.out.2.1 (j := 4) rfl
  have j0 := heap_cell HA1.out.2.2.1 (j := 0) rfl
  have j1 := heap_cell HA1.out.2.2.1 (j := 1) rfl
  have z0 := heap_cell HA1.out.2.2.2 (j := 0) rfl
  have z1 := heap_cell HA1.out.2.2.2 (j := 1) rfl
  cases k1
  · have f0 := heap_frozen HA1.out.2.2.1 0
    have f1 := heap_frozen HA1.out.2.2.1 1
    have h0 := heap_frozen HA1.out.2.2.2 0
    have h1 := heap_frozen HA1.out.2.2.2 1
    go_wp2_with fail
    refine bodyPost_ret (v := .tuple #[.agg #[.int .i64 0, .int .i64 0], .agg #[.int .i64 0, .int .i64 0], .int .i64 10]) (by simp [results, Try.results14, go_sem, j0, j1, z0, z1]) rfl ⟨?_, ?_⟩
    · rw [Pure.twiceV_err (by rw [HE.out, Pure.first3_1 _ _ (by decide)]; decide), HE.out, Pure.first3_1 _ _ (by decide)]
    · exact ((((HB1.out).setCell (p := ⟨w.heap.size + 1 + 1, 0, none⟩) (by simp; omega) _).setCell (p := ⟨w.heap.size + 1 + 1, 1, none⟩) (by simp; omega) _).setCell (p := ⟨w.heap.size + 1 + 1 + 1, 0, none⟩) (by simp; omega) _).setCell (p := ⟨w.heap.size + 1 + 1 + 1, 1, none⟩) (by simp; omega) _
  · have mb := H1.out
    unfold Pure.okCargo at mb
    rw [decide_eq_true_eq] at mb
    go_wp2_with fail
    clear e0 e1 e2 g0 g1 g2 g3 g4 j0 j1 z0 z1
    refine (rDouble_any b lo hi x1 a r x2 t (by omega) mb.2.1 _).mono ?_
    rintro e w' ⟨rfl, hw1⟩
    obtain ⟨HA2, HB2⟩ : Hid (w'.heap[w.heap.size]? = some (.cells #[.int .i64 b, .int .i64 lo, .int .i64 hi] 25) ∧ w'.heap[w.heap.size + 1]? = some (.cells #[.int .i64 x1, .int .i64 a, .int .i64 r, .int .i64 x2, .int .i64 t] 29) ∧ w'.heap[w.heap.size + 1 + 1]? = some (.cells #[.int .i64 0, .int .i64 0] 31) ∧ w'.heap[w.heap.size + 1 + 1 + 1]? = some (.cells #[.int .i64 0, .int .i64 0] 31)) ∧ Hid (Below w.heap.size w w') := by
      rw [hw1]
      have hb := ((Below.refl w1.heap.size w1).alloc (Nat.le_refl _) (.cells #[.int .i64 b, .int .i64 lo, .int .i64 hi] 25)).alloc (by simp) (.cells #[.int .i64 x1, .int .i64 a, .int .i64 r, .int .i64 x2, .int .i64 t] 29)
      exact ⟨Lib.hid ⟨heap_lft HA1.out.1 hb, heap_lft HA1.out.2.1 hb, heap_lft HA1.out.2.2.1 hb, heap_lft HA1.out.2.2.2 hb⟩, Lib.hid (below_thn HB1.out hb)⟩
    clear hw1
    obtain ⟨w2, rfl⟩ : ∃ v, v = w' := ⟨_, rfl⟩
    clear mb
    rw [H2.out]
    have e0 := heap_cell HA2.out.1 (j := 0) rfl
    have e1 := heap_cell HA2.out.1 (j := 1) rfl
    have e2 := heap_cell HA2.out.1 (j := 2) rfl
    have g0 := heap_cell HA2.out.2.1 (j := 0) rfl
    have g1 := heap_cell HA2.out.2.1 (j := 1) rfl
    have g2 := heap_cell HA2.out.2.1 (j := 2) rfl
    have g3 := heap_cell HA2.out.2.1 (j := 3) rfl
    have g4 := heap_cell HA2.out.2.1 (j := 4) rfl
    have j0 := heap_cell HA2.out.2.2.1 (j := 0) rfl
    have j1 := heap_cell HA2.out.2.2.1 (j := 1) rfl
    have z0 := heap_cell HA2.out.2.2.2 (j := 0) rfl
    have z1 := heap_cell HA2.out.2.2.2 (j := 1) rfl
    cases k2
    · have f0 := heap_frozen HA2.out.2.2.1 0
      have f1 := heap_frozen HA2.out.2.2.1 1
      have h0 := heap_frozen HA2.out.2.2.2 0
      have h1 := heap_frozen HA2.out.2.2.2 1
      go_wp2_with fail
      refine bodyPost_ret (v := .tuple #[.agg #[.int .i64 0, .int .i64 0], .agg #[.int .i64 0, .int .i64 0], .int .i64 13]) (by simp [results, Try.results14, go_sem, j0, j1, z0, z1]) rfl ⟨?_, ?_⟩
      · rw [Pure.twiceV_err (by rw [HE.out, Pure.first3_2 _ _ (by decide)]; decide), HE.out, Pure.first3_2 _ _ (by decide)]
      · exact ((((HB2.out).setCell (p := ⟨w.heap.size + 1 + 1, 0, none⟩) (by simp; omega) _).setCell (p := ⟨w.heap.size + 1 + 1, 1, none⟩) (by simp; omega) _).setCell (p := ⟨w.heap.size + 1 + 1 + 1, 0, none⟩) (by simp; omega) _).setCell (p := ⟨w.heap.size + 1 + 1 + 1, 1, none⟩) (by simp; omega) _
    · go_wp2_with fail
      clear e0 e1 e2 g0 g1 g2 g3 g4 j0 j1 z0 z1
      refine (rMay_any b lo hi d _).mono ?_
      rintro e w' ⟨rfl, hw1⟩
      obtain ⟨HA3, HB3⟩ : Hid (w'.heap[w.heap.size]? = some (.cells #[.int .i64 b, .int .i64 lo, .int .i64 hi] 25) ∧ w'.heap[w.heap.size + 1]? = some (.cells #[.int .i64 x1, .int .i64 a, .int .i64 r, .int .i64 x2, .int .i64 t] 29) ∧ w'.heap[w.heap.size + 1 + 1]? = some (.cells #[.int .i64 0, .int .i64 0] 31) ∧ w'.heap[w.heap.size + 1 + 1 + 1]? = some (.cells #[.int .i64 0, .int .i64 0] 31)) ∧ Hid (Below w.heap.size w w') := by
        rw [hw1]
        have hb := (Below.refl w2.heap.size w2).alloc (Nat.le_refl _) (.cells #[.int .i64 b, .int .i64 lo, .int .i64 hi] 25)
        exact ⟨Lib.hid ⟨heap_lft HA2.out.1 hb, heap_lft HA2.out.2.1 hb, heap_lft HA2.out.2.2.1 hb, heap_lft HA2.out.2.2.2 hb⟩, Lib.hid (below_thn HB2.out hb)⟩
      clear hw1
      obtain ⟨w3, rfl⟩ : ∃ v, v = w' := ⟨_, rfl⟩
      rw [H3.out]
      have e0 := heap_cell HA3.out.1 (j := 0) rfl
      have e1 := heap_cell HA3.out.1 (j := 1) rfl
      have e2 := heap_cell HA3.out.1 (j := 2) rfl
      have g0 := heap_cell HA3.out.2.1 (j := 0) rfl
      have g1 := heap_cell HA3.out.2.1 (j := 1) rfl
      have g2 := heap_cell HA3.out.2.1 (j := 2) rfl
      have g3 := heap_cell HA3.out.2.1 (j := 3) rfl
      have g4 := heap_cell HA3.out.2.1 (j := 4) rfl
      have j0 := heap_cell HA3.out.2.2.1 (j := 0) rfl
      have j1 := heap_cell HA3.out.2.2.1 (j := 1) rfl
      have z0 := heap_cell HA3.out.2.2.2 (j := 0) rfl
      have z1 := heap_cell HA3.out.2.2.2 (j := 1) rfl
      cases k3
      · have f0 := heap_frozen HA3.out.2.2.1 0
        have f1 := heap_frozen HA3.out.2.2.1 1
        have h0 := heap_frozen HA3.out.2.2.2 0
        have h1 := heap_frozen HA3.out.2.2.2 1
        go_wp2_with fail
        refine bodyPost_ret (v := .tuple #[.agg #[.int .i64 0, .int .i64 0], .agg #[.int .i64 0, .int .i64 0], .int .i64 2]) (by simp [results, Try.results14, go_sem, j0, j1, z0, z1]) rfl ⟨?_, ?_⟩
        · rw [Pure.twiceV_err (by rw [HE.out, Pure.first3_3 _ _ (by decide)]; decide), HE.out, Pure.first3_3 _ _ (by decide)]
        · exact ((((HB3.out).setCell (p := ⟨w.heap.size + 1 + 1, 0, none⟩) (by simp; omega) _).setCell (p := ⟨w.heap.size + 1 + 1, 1, none⟩) (by simp; omega) _).setCell (p := ⟨w.heap.size + 1 + 1 + 1, 0, none⟩) (by simp; omega) _).setCell (p := ⟨w.heap.size + 1 + 1 + 1, 1, none⟩) (by simp; omega) _
      · have m1 := H1.out
        have m2 := H2.out
        have m3 := H3.out
        unfold Pure.okCargo at m1
        unfold Pure.okDouble at m2
        unfold Pure.okIn at m3
        simp only [decide_eq_true_eq] at m1 m2 m3
        obtain ⟨b1, b2, l0, l1, hb⟩ := m1
        obtain ⟨p1, p2, p3, p4, p5, p6, p7, p8, p9, p10⟩ := m2
        obtain ⟨d0, d1⟩ := m3
        replace HE : Hid (Pure.twiceE b lo hi x1 a r x2 t d = 0) := Lib.hid (by rw [HE.out]; rfl)
        obtain ⟨S, hS⟩ : ∃ S, Pure.sets b x1 = S := ⟨_, rfl⟩
        obtain ⟨U, hU⟩ : ∃ U, Pure.sets (b - x1) x2 = U := ⟨_, rfl⟩
        obtain ⟨P, hP⟩ : ∃ P, Pure.taken b d x1 a r x2 t = P := ⟨_, rfl⟩
        obtain ⟨O, hO⟩ : ∃ O, Pure.opens b d x1 a r x2 = O := ⟨_, rfl⟩
        have s0 : 0 < S := by rw [← hS]; exact Pure.sets_pos (by omega) (by omega)
        have s1 : S ≤ 68719476736 := by rw [← hS]; exact Pure.sets_le b2
        have u0 : 0 < U := by rw [← hU]; exact Pure.sets_pos (by omega) (by omega)
        have u1 : U ≤ 68719476736 := by rw [← hU]; exact Pure.sets_le (by omega)
        have su0 : 0 < S * U := Int.mul_pos s0 u0
        have su1 : S * U ≤ 150094635296999121 := by rw [← hS, ← hU]; exact Pure.two_sets (by omega) b2 (by omega) (by omega)
        have P0 : 0 ≤ P := by rw [← hP]; exact Pure.taken_nonneg
        have P1 : P ≤ 5553501505988967477 := by rw [← hP]; exact Pure.taken_le (by omega) b2 (by omega) (by omega) (by omega) (by omega) (by omega)
        have O0 : 0 ≤ O := by rw [← hO]; exact Pure.opens_nonneg (by omega) (by omega)
        have HS := Lib.hid hS
        have HU := Lib.hid hU
        have HP := Lib.hid hP
        have HO := Lib.hid hO
        obtain ⟨tF, htF⟩ : ∃ f : Nat → Int, (fun k => Pure.sumTo b d x1 (Pure.takenF b d x1 a r x2 t) k) = f := ⟨_, rfl⟩
        obtain ⟨gF, hgF⟩ : ∃ f : Nat → Int, (fun k => Pure.sumTo b d x1 (Pure.againF a r) k) = f := ⟨_, rfl⟩
        have HT : Hid (∀ k, tF k = Pure.sumTo b d x1 (Pure.takenF b d x1 a r x2 t) k) := Lib.hid (fun k => by rw [← htF])
        have HG : Hid (∀ k, gF k = Pure.sumTo b d x1 (Pure.againF a r) k) := Lib.hid (fun k => by rw [← hgF])
        clear hS hU hP hO htF hgF
        go_wp2_with fail
        have xx0 : ∀ xq : Among (Below w3.heap.size w3), xq.val.cell? ⟨w.heap.size, 0, none⟩ = some (.int .i64 b) := fun xq => below_cell xq.ok (heap_cell HA3.out.1 (j := 0) rfl)
        have xx1 : ∀ xq : Among (Below w3.heap.size w3), xq.val.cell? ⟨(w.heap.size + 1), 0, none⟩ = some (.int .i64 x1) := fun xq => below_cell xq.ok (heap_cell HA3.out.2.1 (j := 0) rfl)
        have xx2 : ∀ xq : Among (Below w3.heap.size w3), xq.val.cell? ⟨(w.heap.size + 1), 3, none⟩ = some (.int .i64 x2) := fun xq => below_cell xq.ok (heap_cell HA3.out.2.1 (j := 3) rfl)
        have HC1 : Hid (∀ xq : Among (Below w3.heap.size w3), Calls Try.prog 26 #[.int .i64 b, .int .i64 x1] xq.val fun e w' => e = .returned (.int .i64 S) ∧ ∃ y : Among (Below w3.heap.size w3), w' = y.val) := Lib.hid (fun xq => calls_class ((chooseB b2 HS xq.val).mono fun e w' h => ⟨h.1, xq.ok.trans (h.2.mono xq.ok.size)⟩))
        have HC2 : Hid (∀ xq : Among (Below w3.heap.size w3), Calls Try.prog 26 #[.int .i64 (b - x1), .int .i64 x2] xq.val fun e w' => e = .returned (.int .i64 U) ∧ ∃ y : Among (Below w3.heap.size w3), w' = y.val) := Lib.hid (fun xq => calls_class ((chooseB (show b - x1 ≤ 36 by omega) HU xq.val).mono fun e w' h => ⟨h.1, xq.ok.trans (h.2.mono xq.ok.size)⟩))
        have HSt : Hid (Below w3.heap.size w3 w3.drew) := Lib.hid (Below.refl _ _).drew
        have hne : Nonempty (Among (Below w3.heap.size w3)) := ⟨⟨_, HSt.out⟩⟩
        refine wp_region_class (Below w3.heap.size w3) (by kernel_rfl) (by kernel_rfl) HSt.out ?_
        repeat (go_big_quiet_step ((first | (go_at_call 26; first | with_reducible exact HC1.out _ | with_reducible exact HC2.out _))))
        refine wpQuiet_nil ?_
        intro w4 hx
        have hB8 := among_out hx
        clear hx
        have HB8 := Lib.hid hB8
        clear hB8 hne xx0 xx1 xx2
        have HA4 : Hid (w4.heap[w.heap.size]? = some (.cells #[.int .i64 b, .int .i64 lo, .int .i64 hi] 25) ∧ w4.heap[w.heap.size + 1]? = some (.cells #[.int .i64 x1, .int .i64 a, .int .i64 r, .int .i64 x2, .int .i64 t] 29) ∧ w4.heap[w.heap.size + 1 + 1]? = some (.cells #[.int .i64 0, .int .i64 0] 31) ∧ w4.heap[w.heap.size + 1 + 1 + 1]? = some (.cells #[.int .i64 0, .int .i64 0] 31)) := Lib.hid ⟨heap_lft HA3.out.1 HB8.out, heap_lft HA3.out.2.1 HB8.out, heap_lft HA3.out.2.2.1 HB8.out, heap_lft HA3.out.2.2.2 HB8.out⟩
        have HB4 := Lib.hid (below_thn HB3.out HB8.out)
        clear HB8
        clear e0 e1 e2 g0 g1 g2 g3 g4 j0 j1 z0 z1
        go_wp2_with fail
        go_loopw [12, 13, 14] (fun s g i wr => ∃ k : Nat, (k : Int) ≤ x1 + 1 ∧ s = .int .i64 (tF k) ∧ g = .int .i64 (gF k) ∧ i = .int .i64 k ∧ Below w4.heap.size w4 wr) (fun _ _ i _ => (x1 + 1 - intOf i).toNat)
        case atStart => exact ⟨0, by omega, by rw [HT.out]; rfl, by rw [HG.out]; rfl, rfl, Below.refl _ _⟩
        case round =>
          obtain ⟨k, hk, hs, hg, rfl, hbr⟩ := hrel
          have HBR := Lib.hid hbr
          have HA6 : Hid (wr.heap[w.heap.size]? = some (.cells #[.int .i64 b, .int .i64 lo, .int .i64 hi] 25) ∧ wr.heap[w.heap.size + 1]? = some (.cells #[.int .i64 x1, .int .i64 a, .int .i64 r, .int .i64 x2, .int .i64 t] 29) ∧ wr.heap[w.heap.size + 1 + 1]? = some (.cells #[.int .i64 0, .int .i64 0] 31) ∧ wr.heap[w.heap.size + 1 + 1 + 1]? = some (.cells #[.int .i64 0, .int .i64 0] 31)) := Lib.hid ⟨heap_lft HA4.out.1 hbr, heap_lft HA4.out.2.1 hbr, heap_lft HA4.out.2.2.1 hbr, heap_lft HA4.out.2.2.2 hbr⟩
          have HB6 := Lib.hid (below_thn HB4.out hbr)
          clear hbr
          obtain ⟨T, hT⟩ : ∃ T, tF k = T := ⟨_, rfl⟩
          obtain ⟨G, hG⟩ : ∃ G, gF k = G := ⟨_, rfl⟩
          rw [hT] at hs
          rw [hG] at hg
          subst hs hg
          have T0 : 0 ≤ T := by rw [← hT, HT.out]; exact Pure.sumTo_nonneg (n := k) (fun j _ => Pure.takenF_nonneg _ _ _ _ _ _ _ _) _ (Nat.le_refl _)
          have G0 : 0 ≤ G := by rw [← hG, HG.out]; exact Pure.sumTo_nonneg (n := k) (fun j _ => Pure.againF_nonneg _ _ _) _ (Nat.le_refl _)
          have G1 : G ≤ S := by rw [← hG, HG.out, ← HS.out]; exact Pure.again_sum_le (by omega) (by omega) (by omega) hk
          have T1 : T ≤ P := by
            rw [← hT, HT.out, ← HP.out]
            exact Pure.sumTo_ups (fun j => Pure.takenF_nonneg _ _ _ _ _ _ _ _) (n := (x1 + 1).toNat) (by omega)
          have HTK := Lib.hid hT
          have HGK := Lib.hid hG
          clear hT hG
          have e0 := heap_cell HA6.out.1 (j := 0) rfl
          have e1 := heap_cell HA6.out.1 (j := 1) rfl
          have e2 := heap_cell HA6.out.1 (j := 2) rfl
          have g0 := heap_cell HA6.out.2.1 (j := 0) rfl
          have g1 := heap_cell HA6.out.2.1 (j := 1) rfl
          have g2 := heap_cell HA6.out.2.1 (j := 2) rfl
          have g3 := heap_cell HA6.out.2.1 (j := 3) rfl
          have g4 := heap_cell HA6.out.2.1 (j := 4) rfl
          have j0 := heap_cell HA6.out.2.2.1 (j := 0) rfl
          have j1 := heap_cell HA6.out.2.2.1 (j := 1) rfl
          have z0 := heap_cell HA6.out.2.2.2 (j := 0) rfl
          have z1 := heap_cell HA6.out.2.2.2 (j := 1) rfl
          by_cases hlt : (k : Int) ≤ x1
          · obtain ⟨N, hN⟩ : ∃ N, Pure.ways b d x1 k = N := ⟨_, rfl⟩
            have HTS : Hid (tF (k + 1) = T + N * Pure.takenF b d x1 a r x2 t k) := Lib.hid (by rw [HT.out, Pure.sumTo_succ, ← HT.out, HTK.out, hN])
            have HGS : Hid (gF (k + 1) = G + N * Pure.againF a r k) := Lib.hid (by rw [HG.out, Pure.sumTo_succ, ← HG.out, HGK.out, hN])
            have N0 : 0 ≤ N := by rw [← hN]; exact Pure.ways_nonneg _ _ _ _
            have N1 : N ≤ S := by rw [← hN, ← HS.out]; exact Pure.ways_le_sets (by omega) (by omega) (by omega) hlt
            have T2 : T + N * Pure.takenF b d x1 a r x2 t k ≤ P := by
              rw [← HTS.out, HT.out, ← HP.out]
              exact Pure.sumTo_ups (fun j => Pure.takenF_nonneg _ _ _ _ _ _ _ _) (n := (x1 + 1).toNat) (by omega)
            have HN := Lib.hid hN
            have HT2 := Lib.hid T2
            clear hN T2
            go_wp2_with fail
            refine (rCount_any b d x1 k (by omega) b2 (by omega) (by omega) (by omega) (by omega) (by omega) (by omega) (by omega) _).mono ?_
            rw [HN.out]
            rintro e w' ⟨rfl, rfl⟩
            by_cases hz : N = 0
            · have HT1 : Hid (tF (k + 1) = T) := Lib.hid (by rw [HTS.out, hz]; simp)
              have HG1 : Hid (gF (k + 1) = G) := Lib.hid (by rw [HGS.out, hz]; simp)
              subst hz
              go_wp2_with fail
              go_roundw
              case rel => exact ⟨k + 1, by omega, by rw [HT1.out], by rw [HG1.out], by go_num, HBR.out⟩
              case measure => (simp [intOf] <;> omega)
            · have hz' : (N == 0) = false := by simp [hz]
              by_cases hr : r ≤ (k : Int)
              · have HT1 : Hid (tF (k + 1) = T) := Lib.hid (by rw [HTS.out, Pure.takenF_far p7 hr]; simp)
                have HG1 : Hid (gF (k + 1) = G) := Lib.hid (by
                  rw [HGS.out, show Pure.againF a r k = 0 by
                    unfold Pure.againF Pure.again
                    rw [decide_eq_false (show ¬ (k : Int) < r by omega), Bool.and_false]
                    rfl]
                  simp)
                go_wp2_with fail
                go_roundw
                case rel => exact ⟨k + 1, by omega, by rw [HT1.out], by rw [HG1.out], by go_num, HBR.out⟩
                case measure => (simp [intOf] <;> omega)
              · have hr' : ¬ (k : Int) ≥ r := by omega
                by_cases ha : (k : Int) ≤ a
                · have e1 : Pure.takenF b d x1 a r x2 t k = U := by rw [Pure.takenF_le ha, HU.out]
                  have HT1 : Hid (tF (k + 1) = T + N * U) := Lib.hid (by rw [HTS.out, e1])
                  have HG1 : Hid (gF (k + 1) = G) := Lib.hid (by
                    rw [HGS.out, show Pure.againF a r k = 0 by
                      unfold Pure.againF Pure.again
                      rw [decide_eq_false (show ¬ a < (k : Int) by omega)]
                      rfl]
                    simp)
                  have v0 : 0 ≤ N * U := Int.mul_nonneg N0 (by omega)
                  have v1 := HT2.out
                  rw [e1] at v1
                  clear e1
                  go_wp2_with fail
                  go_roundw
                  case rel => exact ⟨k + 1, by omega, by rw [HT1.out], by rw [HG1.out], by go_num, HBR.out⟩
                  case measure => (simp [intOf] <;> omega)
                · have e0 : Pure.again a r k = true := by
                    unfold Pure.again
                    rw [decide_eq_true (show a < (k : Int) by omega), decide_eq_true (show (k : Int) < r by omega)]
                    rfl
                  obtain ⟨V, hV⟩ : ∃ V, Pure.few (b - x1) (d - k) x2 (t - k) = V := ⟨_, rfl⟩
                  have e1 : Pure.takenF b d x1 a r x2 t k = V := by rw [Pure.takenF_again ha e0, hV]
                  have HT1 : Hid (tF (k + 1) = T + N * V) := Lib.hid (by rw [HTS.out, e1])
                  have HG1 : Hid (gF (k + 1) = G + N) := Lib.hid (by
                    rw [HGS.out, show Pure.againF a r k = 1 by unfold Pure.againF; rw [e0]; rfl, Int.mul_one])
                  have V0 : 0 ≤ V := by rw [← hV]; exact Pure.few_nonneg
                  have v0 : 0 ≤ N * V := Int.mul_nonneg N0 V0
                  have v1 := HT2.out
                  rw [e1] at v1
                  have HV := Lib.hid hV
                  have g2 : G + N ≤ S := by
                    rw [← HG1.out, HG.out, ← HS.out]
                    exact Pure.again_sum_le (by omega) (by omega) (by omega) (by omega)
                  clear e0 e1 hV
                  go_wp2_with fail
                  refine (rFewAny (show 0 ≤ b - x1 by omega) (by omega) (show -36 ≤ d - (k : Int) by omega) (by omega) (by omega) (show 0 ≤ x2 by omega) (by omega) (show t - (k : Int) ≤ 36 by omega) HV _).mono ?_
                  rintro e w' ⟨rfl, rfl⟩
                  go_wp2_with fail
                  go_roundw
                  case rel => exact ⟨k + 1, by omega, by rw [HT1.out], by rw [HG1.out], by go_num, HBR.out⟩
                  case measure => (simp [intOf] <;> omega)
          · obtain ⟨n, hn⟩ : ∃ n : Nat, x1 + 1 = n := ⟨(x1 + 1).toNat, by omega⟩
            obtain rfl : k = n := by omega
            have HTP : Hid (T = P) := Lib.hid (by
              rw [← HTK.out, HT.out, ← HP.out]
              unfold Pure.taken Pure.sum
              rw [hn, Int.toNat_natCast])
            have HGO : Hid (x1 * S + x2 * G = O) := Lib.hid (by
              rw [← HO.out, Pure.opens_by (by omega) (by omega) (by omega), ← HGK.out, HG.out, HS.out, hn, Int.toNat_natCast])
            have o1 : 0 ≤ x1 * S := Int.mul_nonneg (by omega) (by omega)
            have o2 : x1 * S ≤ 36 * 68719476736 := Int.mul_le_mul (by omega) s1 (by omega) (by decide)
            have o3 : 0 ≤ x2 * G := Int.mul_nonneg (by omega) (by omega)
            have o4 : x2 * G ≤ 36 * 68719476736 := Int.mul_le_mul (by omega) (by omega) (by omega) (by decide)
            have O1 : O ≤ 72 * 68719476736 := by rw [← HGO.out]; omega
            have q1 : IntKind.i64.wrap (S * U) = S * U := IntWalk.i64_in _ (by omega)
            have q2 : IntKind.i64.wrap (x1 * S) = x1 * S := IntWalk.i64_in _ (by omega)
            have q3 : IntKind.i64.wrap (x2 * G) = x2 * G := IntWalk.i64_in _ (by omega)
            have q4 : IntKind.i64.wrap (x1 * S + x2 * G) = O := by rw [HGO.out]; exact IntWalk.i64_in _ (by omega)
            have hTP := HTP.out
            subst hTP
            have HL1 : Hid (∀ xq : Among (Below wr.heap.size wr), Calls Try.prog 24 #[.int .i64 T, .int .i64 (S * U)] xq.val fun e w' => e = .returned (partV T (S * U)) ∧ ∃ y : Among (Below wr.heap.size wr), w' = y.val) := Lib.hid (fun xq => calls_class ((leastB P0 (by omega) su0 (by omega) (Lib.hid rfl) xq.val).mono fun e w' h => ⟨h.1, xq.ok.trans (h.2.mono xq.ok.size)⟩))
            have HL2 : Hid (∀ xq : Among (Below wr.heap.size wr), Calls Try.prog 24 #[.int .i64 O, .int .i64 S] xq.val fun e w' => e = .returned (partV O S) ∧ ∃ y : Among (Below wr.heap.size wr), w' = y.val) := Lib.hid (fun xq => calls_class ((leastB O0 (by omega) s0 (by omega) (Lib.hid rfl) xq.val).mono fun e w' h => ⟨h.1, xq.ok.trans (h.2.mono xq.ok.size)⟩))
            have xx0 : ∀ xq : Among (Below wr.heap.size wr), xq.val.cell? ⟨w.heap.size + 1, 0, none⟩ = some (.int .i64 x1) := fun xq => below_cell xq.ok g0
            have xx1 : ∀ xq : Among (Below wr.heap.size wr), xq.val.cell? ⟨w.heap.size + 1, 3, none⟩ = some (.int .i64 x2) := fun xq => below_cell xq.ok g3
            have HSt : Hid (Below wr.heap.size wr wr.drew) := Lib.hid (Below.refl _ _).drew
            have hne : Nonempty (Among (Below wr.heap.size wr)) := ⟨⟨_, HSt.out⟩⟩
            go_wp2_with fail
            have f0 := heap_frozen HA6.out.2.2.1 0
            have f1 := heap_frozen HA6.out.2.2.1 1
            have h0 := heap_frozen HA6.out.2.2.2 0
            have h1 := heap_frozen HA6.out.2.2.2 1
            refine wp_region_tail 16 (Below wr.heap.size wr) (by kernel_rfl) (by kernel_rfl) HSt.out ?_
            simp only [List.take_succ_cons, List.take_zero, List.drop_succ_cons, List.drop_zero]
            repeat (go_big_quiet_step ((first | (go_at_call 24; first | with_reducible exact HL1.out _ | with_reducible exact HL2.out _))))
            refine wpQuiet_nil ?_
            intro w8 hx
            have hB8 := among_out hx
            clear hx
            have HA8 : Hid (w8.heap[w.heap.size]? = some (.cells #[.int .i64 b, .int .i64 lo, .int .i64 hi] 25) ∧ w8.heap[w.heap.size + 1]? = some (.cells #[.int .i64 x1, .int .i64 a, .int .i64 r, .int .i64 x2, .int .i64 t] 29) ∧ w8.heap[w.heap.size + 1 + 1]? = some (.cells #[.int .i64 0, .int .i64 0] 31) ∧ w8.heap[w.heap.size + 1 + 1 + 1]? = some (.cells #[.int .i64 0, .int .i64 0] 31)) := Lib.hid ⟨heap_lft HA6.out.1 hB8, heap_lft HA6.out.2.1 hB8, heap_lft HA6.out.2.2.1 hB8, heap_lft HA6.out.2.2.2 hB8⟩
            have HB8 := Lib.hid (below_thn HB6.out hB8)
            clear hB8 hne xx0 xx1 f0 f1 h0 h1
            clear e0 e1 e2 g0 g1 g2 g3 g4 j0 j1 z0 z1
            have e0 := heap_cell HA8.out.1 (j := 0) rfl
            have e1 := heap_cell HA8.out.1 (j := 1) rfl
            have e2 := heap_cell HA8.out.1 (j := 2) rfl
            have g0 := heap_cell HA8.out.2.1 (j := 0) rfl
            have g1 := heap_cell HA8.out.2.1 (j := 1) rfl
            have g2 := heap_cell HA8.out.2.1 (j := 2) rfl
            have g3 := heap_cell HA8.out.2.1 (j := 3) rfl
            have g4 := heap_cell HA8.out.2.1 (j := 4) rfl
            have j0 := heap_cell HA8.out.2.2.1 (j := 0) rfl
            have j1 := heap_cell HA8.out.2.2.1 (j := 1) rfl
            have z0 := heap_cell HA8.out.2.2.2 (j := 0) rfl
            have z1 := heap_cell HA8.out.2.2.2 (j := 1) rfl
            have f0 := heap_frozen HA8.out.2.2.1 0
            have f1 := heap_frozen HA8.out.2.2.1 1
            have h0 := heap_frozen HA8.out.2.2.2 0
            have h1 := heap_frozen HA8.out.2.2.2 1
            go_wp2_with fail
            refine bodyPost_ret (v := .tuple #[partV T (S * U), partV O S, .int .i64 0]) (by simp [results, Try.results14, go_sem, j0, j1, z0, z1]) rfl ⟨?_, ?_⟩
            · rw [Pure.twiceV_zero HE.out, HP.out, HO.out, HS.out, HU.out]
            · exact ((((HB8.out).setCell (p := ⟨w.heap.size + 1 + 1, 0, none⟩) (by simp; omega) _).setCell (p := ⟨w.heap.size + 1 + 1, 1, none⟩) (by simp; omega) _).setCell (p := ⟨w.heap.size + 1 + 1 + 1, 0, none⟩) (by simp; omega) _).setCell (p := ⟨w.heap.size + 1 + 1 + 1, 1, none⟩) (by simp; omega) _

end Go.Proofs.Ytmhhfopiaimhbaa
