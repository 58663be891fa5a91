/-
  SampleWhole returns true for every input: cargoes that are not valid pass, the other numbers are taken into their spans by the statement itself. There is no condition.
  Plain mathematics: how many dirty bags there are in the middle of all draws.
  SampleWhole: the walk of the law.
-/
import Derived.Test.YtnldipniaphmgaaVander
import Derived.Test.YtnldipniaphmgaaMean
import Derived.Test.YtnldipniaphmgaaAlive
import Derived.Test.YtnldipniaphmgaaOver
import Derived.Test.YtnldipniaphmgaaOpen

namespace Go.Proofs.Ytnldipniaphmgaa
namespace Pure

theorem upSum_mul (c : Nat) (f : Nat → Nat) : ∀ n : Nat, upSum (fun k => c * f k) n = c * upSum f n
  | 0 => by show 0 = c * 0; omega
  | n + 1 => by
    show upSum (fun k => c * f k) n + c * f n = c * (upSum f n + f n)
    rw [upSum_mul c f n, Nat.mul_add]
theorem middle_nat (m n : Nat) : ∀ r : Nat, upSum (fun k => k * (ch m k * ch n (r - k))) (r + 1) * (m + n) = m * r * ch (m + n) r
  | 0 => by
    show (0 + 0 * (ch m 0 * ch n (0 - 0))) * (m + n) = m * 0 * ch (m + n) 0
    simp
  | r + 1 => by
    rw [upSum_shift]
    have e0 : (0 : Nat) * (ch m 0 * ch n (r + 1 - 0)) = 0 := by omega
    rw [e0, Nat.zero_add]
    cases m with
    | zero =>
      have h : upSum (fun k => (k + 1) * (ch 0 (k + 1) * ch n (r + 1 - (k + 1)))) (r + 1) = upSum (fun _ => 0) (r + 1) := upSum_congr (fun k _ => by
        show (k + 1) * (0 * _) = 0
        simp)
      rw [h, upSum_zero]
      simp
    | succ m =>
      have h : upSum (fun k => (k + 1) * (ch (m + 1) (k + 1) * ch n (r + 1 - (k + 1)))) (r + 1) = upSum (fun k => (m + 1) * (ch m k * ch n (r - k))) (r + 1) := upSum_congr (fun k _ => by
        rw [show r + 1 - (k + 1) = r - k by omega, ← Nat.mul_assoc, ch_absorb, Nat.mul_assoc])
      rw [h, upSum_mul, vander]
      have ha := ch_absorb (m + n) r
      rw [show m + n + 1 = m + 1 + n by omega] at ha
      rw [Nat.mul_assoc (m + 1), Nat.mul_comm (ch (m + n) r), ← ha, Nat.mul_assoc]

/-- What the middle is made of, up to k. -/
def midTo (b d o : Int) (k : Nat) : Int := sumTo b d o (fun j => j) k
theorem midTo_zero (b d o : Int) : midTo b d o 0 = 0 := rfl
theorem midTo_succ (b d o : Int) (k : Nat) : midTo b d o (k + 1) = midTo b d o k + k * ways b d o k := by
  show midTo b d o k + ways b d o k * (k : Int) = _
  rw [Int.mul_comm]
theorem midTo_all (b d o : Int) : midTo b d o (o + 1).toNat = total b d o := rfl
theorem midTo_sum (m n o : Nat) : ∀ k : Nat, k ≤ o + 1 → midTo ((m : Int) + n) m o k = upSum (fun j => j * (ch m j * ch n (o - j))) k
  | 0, _ => rfl
  | k + 1, h => by
    rw [midTo_succ, midTo_sum m n o k (by omega)]
    have e : ways ((m : Int) + n) m o k = ((ch m k * ch n (o - k) : Nat) : Int) := by
      unfold ways
      rw [show (m : Int) + n - m = n by omega, show (o : Int) - k = ((o - k : Nat) : Int) by omega, sets_nat, sets_nat]
      simp
    rw [e]
    show _ = ((upSum _ k + k * (ch m k * ch n (o - k)) : Nat) : Int)
    rw [Int.natCast_add, Int.natCast_mul k]
/-- **The middle is the share of the dirty ones.** -/
theorem total_share {b d o : Int} (hd0 : 0 ≤ d) (hd : d ≤ b) (ho0 : 0 ≤ o) : total b d o * b = d * o * sets b o := by
  obtain ⟨m, rfl⟩ : ∃ m : Nat, d = m := ⟨d.toNat, by omega⟩
  obtain ⟨n, rfl⟩ : ∃ n : Nat, b = (m : Int) + n := ⟨(b - m).toNat, by omega⟩
  obtain ⟨r, rfl⟩ : ∃ r : Nat, o = r := ⟨o.toNat, by omega⟩
  rw [← midTo_all, show ((r : Int) + 1).toNat = r + 1 by omega, midTo_sum m n r (r + 1) (by omega)]
  have h := middle_nat m n r
  have e : sets ((m : Int) + n) r = ((ch (m + n) r : Nat) : Int) := by rw [← sets_nat, Int.natCast_add]
  rw [e]
  exact_mod_cast h
theorem fewTo_le_all {b d o : Int} (hd0 : 0 ≤ d) (hd : d ≤ b) (ho0 : 0 ≤ o) {k : Nat} (hk : (k : Int) ≤ o + 1) : fewTo b d o k ≤ sets b o := by
  rw [← fewTo_all hd0 hd ho0]
  exact fewTo_mono b d o (by omega)
theorem midTo_le {b d o : Int} (hb : b ≤ 36) (k : Nat) (hk : k ≤ 37) : midTo b d o k ≤ k * 2473901162496 :=
  sumTo_le (n := k) (fun j hj => mul_le36 (ways_nonneg b d o j) (ways_le hb) (by omega)) k (Nat.le_refl _)
theorem midTo_nonneg (b d o : Int) (k : Nat) : 0 ≤ midTo b d o k := sumTo_nonneg (n := k) (fun j _ => by omega) k (Nat.le_refl _)
/-- Fractions that are alike have the same lowest terms. -/
theorem low_same {a b c d : Int} (ha : 0 ≤ a) (hb : 0 < b) (hc : 0 ≤ c) (hd : 0 < d) (h : a * d = c * b) : a / gcd a b = c / gcd c d ∧ b / gcd a b = d / gcd c d := by
  obtain ⟨m, rfl⟩ : ∃ m : Nat, a = m := ⟨a.toNat, by omega⟩
  obtain ⟨n, rfl⟩ : ∃ n : Nat, b = n := ⟨b.toNat, by omega⟩
  obtain ⟨p, rfl⟩ : ∃ p : Nat, c = p := ⟨c.toNat, by omega⟩
  obtain ⟨q, rfl⟩ : ∃ q : Nat, d = q := ⟨d.toNat, by omega⟩
  have hn : 0 < n := by omega
  have hq : 0 < q := by omega
  have hh : m * q = p * n := by exact_mod_cast h
  unfold gcd
  simp only [Int.toNat_natCast]
  have g1 : 0 < m.gcd n := Nat.gcd_pos_of_pos_right _ hn
  have g2 : 0 < p.gcd q := Nat.gcd_pos_of_pos_right _ hq
  have e1 : m.gcd n * q = n * p.gcd q := by
    rw [← Nat.gcd_mul_right, hh, ← Nat.gcd_mul_left, Nat.mul_comm n p]
  have e2 : m.gcd n * p = m * p.gcd q := by
    rw [← Nat.gcd_mul_right, ← Nat.gcd_mul_left, hh, Nat.mul_comm n p]
  obtain ⟨x, hx⟩ := Nat.gcd_dvd_left m n
  obtain ⟨y, hy⟩ := Nat.gcd_dvd_right m n
  obtain ⟨s, hs⟩ := Nat.gcd_dvd_left p q
  obtain ⟨t, ht⟩ := Nat.gcd_dvd_right p q
  generalize m.gcd n = g at *
  generalize p.gcd q = k at *
  subst hx hy hs ht
  have r1 : y = t := by
    have : g * (k * t) = g * (k * y) := by rw [e1]; ac_rfl
    exact (Nat.eq_of_mul_eq_mul_left g2 (Nat.eq_of_mul_eq_mul_left g1 this)).symm
  have r2 : x = s := by
    have : g * (k * s) = g * (k * x) := by rw [e2]; ac_rfl
    exact (Nat.eq_of_mul_eq_mul_left g2 (Nat.eq_of_mul_eq_mul_left g1 this)).symm
  subst r1 r2
  have d1 : ∀ g x : Nat, 0 < g → ((g * x : Nat) : Int) / (g : Nat) = x := fun g x hg => by
    rw [Int.natCast_mul, Int.mul_ediv_cancel_left _ (by omega)]
  rw [d1 g x g1, d1 g y g1, d1 k x g2, d1 k y g2]
  exact ⟨rfl, rfl⟩

end Pure
end Go.Proofs.Ytnldipniaphmgaa

namespace Go.Proofs.Ytnldipniaphmgaa
open Go.RowKit Go.Shelf

/-- The chances of a valid cargo, in lowest terms. -/
theorem atMostV {b lo hi d o f pn pd : Int} (hc : Pure.okCargo b lo hi = true) (d0 : lo ≤ d) (d1 : d ≤ hi) (o0 : 0 ≤ o) (o1 : o ≤ b) (f0 : 0 ≤ f) (f1 : f ≤ o) (h : Hid (partV (Pure.few b d o f) (Pure.sets b o) = .agg #[.int .i64 pn, .int .i64 pd])) (w : World) :
    Calls Try.prog 31 #[cargoV b lo hi, .int .i64 d, .agg #[.int .i64 o, .int .i64 f]] w fun e w' => e = .returned (.tuple #[.agg #[.int .i64 pn, .int .i64 pd], .int .i64 0]) ∧ Below w.heap.size w w' :=
  (atMost_any b lo hi d o f w).mono fun _ _ g => ⟨g.1.trans (by
    have h2 : Pure.okDraw b o f = true := by unfold Pure.okDraw; rw [decide_eq_true_eq]; omega
    have h3 : Pure.okIn lo hi d = true := by unfold Pure.okIn; rw [decide_eq_true_eq]; omega
    rw [Pure.res2_zero (by rw [hc, h2, h3]; rfl), h.out]), g.2⟩
theorem chanceV {b lo hi d o f pn pd : Int} (hc : Pure.okCargo b lo hi = true) (d0 : lo ≤ d) (d1 : d ≤ hi) (o0 : 0 ≤ o) (o1 : o ≤ b) (f0 : 0 ≤ f) (f1 : f ≤ o) (h : Hid (partV (Pure.ways b d o f) (Pure.sets b o) = .agg #[.int .i64 pn, .int .i64 pd])) (w : World) :
    Calls Try.prog 29 #[cargoV b lo hi, .int .i64 d, .agg #[.int .i64 o, .int .i64 f]] w fun e w' => e = .returned (.tuple #[.agg #[.int .i64 pn, .int .i64 pd], .int .i64 0]) ∧ Below w.heap.size w w' :=
  (chance_any b lo hi d o f w).mono fun _ _ g => ⟨g.1.trans (by
    have h2 : Pure.okDraw b o f = true := by unfold Pure.okDraw; rw [decide_eq_true_eq]; omega
    have h3 : Pure.okIn lo hi d = true := by unfold Pure.okIn; rw [decide_eq_true_eq]; omega
    rw [Pure.res2_zero (by rw [hc, h2, h3]; rfl), h.out]), g.2⟩
theorem meanV {b lo hi d o pn pd : Int} (hc : Pure.okCargo b lo hi = true) (d0 : lo ≤ d) (d1 : d ≤ hi) (o0 : 0 ≤ o) (o1 : o ≤ b) (h : Hid (partV (Pure.total b d o) (Pure.sets b o) = .agg #[.int .i64 pn, .int .i64 pd])) (w : World) :
    Calls Try.prog 36 #[cargoV b lo hi, .int .i64 d, .int .i64 o] w fun e w' => e = .returned (.tuple #[.agg #[.int .i64 pn, .int .i64 pd], .int .i64 0]) ∧ Below w.heap.size w w' :=
  (mean_any b lo hi d o w).mono fun _ _ g => ⟨g.1.trans (by
    have h2 : Pure.okIn 0 b o = true := by unfold Pure.okIn; rw [decide_eq_true_eq]; omega
    have h3 : Pure.okIn lo hi d = true := by unfold Pure.okIn; rw [decide_eq_true_eq]; omega
    rw [Pure.res2_zero (by rw [hc, h2, h3]; rfl), h.out]), g.2⟩
theorem part_alike {a b c d : Int} (ha : 0 ≤ a) (hb : 0 < b) (hc : 0 ≤ c) (hd : 0 < d) (h : a * d = c * b) : partV a b = partV c d := by
  obtain ⟨h1, h2⟩ := Pure.low_same ha hb hc hd h
  show Value.agg #[.int .i64 _, .int .i64 _] = .agg #[.int .i64 _, .int .i64 _]
  rw [h1, h2]
theorem leastV {n d pn pd : Int} (hn : 0 ≤ n) (hn1 : n ≤ 9223372036854775807) (hd : 0 < d) (hd1 : d ≤ 9223372036854775807) (h : Hid (partV n d = .agg #[.int .i64 pn, .int .i64 pd])) (w : World) :
    Calls Try.prog 37 #[.int .i64 n, .int .i64 d] w fun e w' => e = .returned (.agg #[.int .i64 pn, .int .i64 pd]) ∧ Below w.heap.size w w' :=
  (rLeast_any n d hn hn1 hd hd1 w).mono fun _ _ g => ⟨g.1.trans (by rw [h.out]), g.2⟩

set_option maxHeartbeats 4000000 in
set_option maxRecDepth 100000 in
/-- A cargo that is not valid. -/
theorem whole_bad (b lo hi x y : Int) (hc : Hid (Pure.okCargo b lo hi = false)) (w : World) :
    Calls Try.prog 6 #[cargoV b lo hi, .int .u8 x, .int .u8 y] w fun e w' => e = .returned (.bool true) ∧ Below w.heap.size w w' := by
  go_enter Try.func6, Try.ntmps6
  go_wp2_with fail
  refine (alive_any _).mono ?_
  rintro e w1 ⟨rfl, hb1⟩
  have hcc := heap_lift (heap_top w (.cells #[.int .i64 b, .int .i64 lo, .int .i64 hi] 25) rfl) hb1
  have c0 := heap_cell hcc (j := 0) rfl
  have c1 := heap_cell hcc (j := 1) rfl
  have c2 := heap_cell hcc (j := 2) rfl
  have HB := Lib.hid (below_then ((Below.refl _ _).alloc (Nat.le_refl _) _) hb1)
  clear hcc hb1
  go_wp2_with fail
  refine (rCargo_any b lo hi _).mono ?_
  rw [hc.out]
  rintro e w2 ⟨rfl, rfl⟩
  go_wp2_with fail
  go_ret
  exact ⟨rfl, HB.out.alloc HB.out.size _⟩

set_option maxHeartbeats 8000000 in
set_option maxRecDepth 100000 in
theorem whole_good (b lo hi x y d S : Int) (n : Nat) (hc : Hid (Pure.okCargo b lo hi = true)) (b1 : 1 ≤ b) (b2 : b ≤ 36) (l0 : 0 ≤ lo) (l1 : lo ≤ hi) (h36 : hi ≤ 36) (hbb : hi ≤ b) (x0 : 0 ≤ x) (x1 : x ≤ 255) (y0 : 0 ≤ y) (y1 : y ≤ 255)
    (hd : Hid (lo + x % (hi - lo + 1) = d)) (hn : Hid (y % (b + 1) = (n : Int))) (hS : Hid (Pure.sets b (n : Int) = S)) (d0 : lo ≤ d) (d1 : d ≤ hi) (n0 : 0 ≤ (n : Int)) (n1 : (n : Int) ≤ b) (s0 : 0 < S) (s1 : S ≤ 68719476736) (w : World) :
    Calls Try.prog 6 #[cargoV b lo hi, .int .u8 x, .int .u8 y] w fun e w' => e = .returned (.bool true) ∧ Below w.heap.size w w' := by
  go_enter Try.func6, Try.ntmps6
  go_wp2_with fail
  refine (alive_any _).mono ?_
  rintro e w1 ⟨rfl, hb1⟩
  have hcc := heap_lift (heap_top w (.cells #[.int .i64 b, .int .i64 lo, .int .i64 hi] 25) rfl) hb1
  have HC := Lib.hid hcc
  have c0 := heap_cell hcc (j := 0) rfl
  have c1 := heap_cell hcc (j := 1) rfl
  have c2 := heap_cell hcc (j := 2) rfl
  have HB := Lib.hid (below_then ((Below.refl _ _).alloc (Nat.le_refl _) _) hb1)
  obtain ⟨Bc, hBc⟩ : ∃ Bc, w.heap.size = Bc := ⟨_, rfl⟩
  rw [hBc] at HC c0 c1 c2
  clear hcc hb1
  go_wp2_with fail
  clear hBc
  refine (rCargo_any b lo hi _).mono ?_
  rw [hc.out]
  rintro e w2 ⟨rfl, rfl⟩
  obtain ⟨w2, hw2⟩ : ∃ w2, w1.alloc (.cells #[.int .i64 b, .int .i64 lo, .int .i64 hi] 25) = w2 := ⟨_, rfl⟩
  replace HC := Lib.hid (heap_up HC.out (.cells #[.int .i64 b, .int .i64 lo, .int .i64 hi] 25))
  replace HB := Lib.hid (HB.out.alloc HB.out.size (.cells #[.int .i64 b, .int .i64 lo, .int .i64 hi] 25))
  rw [hw2] at HC HB
  rw [hw2]
  clear c0 c1 c2 hw2
  go_wp2_with fail
  have HK : Hid (∀ v : World, Below w2.heap.size w2 v → (v.cell? ⟨Bc, 0, none⟩ = some (.int .i64 b) ∧ v.cell? ⟨Bc, 1, none⟩ = some (.int .i64 lo) ∧ v.cell? ⟨Bc, 2, none⟩ = some (.int .i64 hi) ∧ Below w2.heap.size w2 v)) :=
    Lib.hid (fun v k => ⟨below_cell k (heap_cell HC.out (j := 0) rfl), below_cell k (heap_cell HC.out (j := 1) rfl), below_cell k (heap_cell HC.out (j := 2) rfl), k⟩)
  have t1 : IntKind.i64.wrap (b + 1) = b + 1 := IntWalk.i64_in _ (by omega)
  have t2 : Int.tmod y (b + 1) = n := by rw [Int.tmod_eq_emod_of_nonneg y0]; exact hn.out
  have t3 : (b + 1 == 0) = false := by simp; omega
  have t4 : (0 : Int) < b + 1 := by omega
  have t5 : ¬ (b + 1 = 0) := by omega
  have t6 : IntKind.i64.wrap y = y := IntWalk.i64_in _ (by omega)
  go_cut [8, 9] (fun s8 s9 wx => s8 = .int .i64 d ∧ s9 = .int .i64 n ∧ Below w2.heap.size w2 wx)
  case first =>
    as_aux_lemma =>
      go_region_held3 (fun v => v.cell? ⟨Bc, 0, none⟩ = some (.int .i64 b) ∧ v.cell? ⟨Bc, 1, none⟩ = some (.int .i64 lo) ∧ v.cell? ⟨Bc, 2, none⟩ = some (.int .i64 hi) ∧ Below w2.heap.size w2 v)
        (first | exact HK.out _ (Below.refl _ _).drew | exact HK.out _ ((Below.refl _ _).alloc (Nat.le_refl _) _).drew | exact HK.out _ hqu0 | exact HK.out _ (Below.alloc hqu0 (Below.size hqu0) _))
        (first
          | (go_at_call 33; refine (some_any b lo hi x l0 l1 h36 x0 x1 hd _).mono ?_; rintro e u0 ⟨rfl, hbu0⟩; have hqu0 : Below w2.heap.size w2 u0 := below_then (And.right (And.right (And.right (by assumption)))) hbu0))
      all_goals
        go_wp2_with fail
        go_meet
        exact ⟨rfl, by first | rfl | rw [hn.out], hqu0⟩
  case rest =>
    obtain ⟨w3, rfl⟩ : ∃ x, x = wc := ⟨_, rfl⟩
    obtain ⟨rfl, rfl, hb3⟩ := hcut
    replace HC := Lib.hid (heap_lift HC.out hb3)
    replace HB := Lib.hid (HB.out.trans (hb3.mono HB.out.size))
    clear hb3 HK t1 t2 t3 t4 t5 t6
    have c0 := heap_cell HC.out (j := 0) rfl
    go_wp2_with fail
    refine (choose_any b n b2 _).mono ?_
    rw [hS.out]
    rintro e w' ⟨rfl, rfl⟩
    clear c0
    go_wp2_with fail
    go_loopw [11, 12, 48] (fun s g i wr => ∃ k : Nat, k ≤ n + 1 ∧ i = .int .i64 k ∧ s = .int .i64 (Pure.fewTo b d n k) ∧ g = .int .i64 (Pure.midTo b d n k) ∧ Below w3.heap.size w3 wr) (fun _ _ i _ => n + 1 - (intOf i).toNat)
    case atStart => exact ⟨0, by omega, rfl, rfl, rfl, Below.refl _ _⟩
    case round =>
      obtain ⟨k, hk, rfl, hs, hg, hbr⟩ := hrel
      obtain ⟨F, hF⟩ : ∃ F, Pure.fewTo b d n k = F := ⟨_, rfl⟩
      obtain ⟨G, hG⟩ : ∃ G, Pure.midTo b d n k = G := ⟨_, rfl⟩
      rw [hF] at hs
      rw [hG] at hg
      subst hs hg
      have F0 : 0 ≤ F := by rw [← hF]; exact Pure.fewTo_nonneg _ _ _ _
      have F1 : F ≤ S := by rw [← hF, ← hS.out]; exact Pure.fewTo_le_all (by omega) (by omega) (by omega) (by omega)
      have G0 : 0 ≤ G := by rw [← hG]; exact Pure.midTo_nonneg _ _ _ _
      have G1 : G ≤ 91534343012352 := by
        have := Pure.midTo_le (b := b) (d := d) (o := n) b2 k (by omega)
        rw [hG] at this
        omega
      have HBR := Lib.hid hbr
      replace HC := Lib.hid (heap_lift HC.out hbr)
      by_cases hk1 : k < n + 1
      · obtain ⟨M, hM⟩ : ∃ M, Pure.ways b d n k = M := ⟨_, rfl⟩
        have HFS : Hid (Pure.fewTo b d n (k + 1) = F + M) := Lib.hid (by rw [Pure.fewTo_succ, hF, hM])
        have HGS : Hid (Pure.midTo b d n (k + 1) = G + k * M) := Lib.hid (by rw [Pure.midTo_succ, hG, hM])
        have m0 : 0 ≤ M := by rw [← hM]; exact Pure.ways_nonneg _ _ _ _
        have FM : F + M ≤ S := by rw [← HFS.out, ← hS.out]; exact Pure.fewTo_le_all (by omega) (by omega) (by omega) (by omega)
        have m1 : M ≤ S := by omega
        have k0 : 0 ≤ (k : Int) * M := Int.mul_nonneg (by omega) m0
        have k1 : (k : Int) * M ≤ 2473901162496 := Int.le_trans (Int.mul_le_mul (show (k : Int) ≤ 36 by omega) (show M ≤ 68719476736 by omega) m0 (by decide)) (by decide)
        have HV : Hid (partV (Pure.ways b d n k) (Pure.sets b n) = .agg #[.int .i64 (M / Pure.gcd M S), .int .i64 (S / Pure.gcd M S)]) := Lib.hid (by rw [hM, hS.out])
        have HV2 : Hid (partV M S = .agg #[.int .i64 (M / Pure.gcd M S), .int .i64 (S / Pure.gcd M S)]) := Lib.hid rfl
        have HU : Hid (partV (Pure.few b d n k) (Pure.sets b n) = .agg #[.int .i64 ((F + M) / Pure.gcd (F + M) S), .int .i64 (S / Pure.gcd (F + M) S)]) := Lib.hid (by rw [Pure.few_eq (by omega) (by omega), show ((k : Int) + 1).toNat = k + 1 by omega, HFS.out, hS.out])
        have HU2 : Hid (partV (F + M) S = .agg #[.int .i64 ((F + M) / Pure.gcd (F + M) S), .int .i64 (S / Pure.gcd (F + M) S)]) := Lib.hid rfl
        obtain ⟨pn, hpn⟩ : ∃ pn, M / Pure.gcd M S = pn := ⟨_, rfl⟩
        obtain ⟨pd, hpd⟩ : ∃ pd, S / Pure.gcd M S = pd := ⟨_, rfl⟩
        obtain ⟨qn, hqn⟩ : ∃ qn, (F + M) / Pure.gcd (F + M) S = qn := ⟨_, rfl⟩
        obtain ⟨qd, hqd⟩ : ∃ qd, S / Pure.gcd (F + M) S = qd := ⟨_, rfl⟩
        rw [hpn, hpd] at HV HV2
        rw [hqn, hqd] at HU HU2
        clear hF hG hM hbr hpn hpd hqn hqd
        go_wp2_with fail
        have HK : Hid (∀ v : World, Below wr.heap.size wr v → (v.cell? ⟨Bc, 0, none⟩ = some (.int .i64 b) ∧ v.cell? ⟨Bc, 1, none⟩ = some (.int .i64 lo) ∧ v.cell? ⟨Bc, 2, none⟩ = some (.int .i64 hi) ∧ Below wr.heap.size wr v)) :=
          Lib.hid (fun v k => ⟨below_cell k (heap_cell HC.out (j := 0) rfl), below_cell k (heap_cell HC.out (j := 1) rfl), below_cell k (heap_cell HC.out (j := 2) rfl), k⟩)
        go_cut [14, 15] from 49 to 106 (fun s t wx => BoxAt wx s #[.int .i64 pn, .int .i64 pd] 31 wr.heap.size ∧ t = .int .i64 0 ∧ Below wr.heap.size wr wx)
        case first =>
          as_aux_lemma =>
            go_region_held3 (fun v => v.cell? ⟨Bc, 0, none⟩ = some (.int .i64 b) ∧ v.cell? ⟨Bc, 1, none⟩ = some (.int .i64 lo) ∧ v.cell? ⟨Bc, 2, none⟩ = some (.int .i64 hi) ∧ Below wr.heap.size wr v)
              (first | exact HK.out _ (Below.refl _ _).drew | exact HK.out _ ((Below.refl _ _).alloc (Nat.le_refl _) _).drew | exact HK.out _ hqu1 | exact HK.out _ (Below.alloc hqu1 (Below.size hqu1) _) | exact HK.out _ (box_two hqu1 HZ.out _ _).2 | exact HK.out _ hqu0 | exact HK.out _ (Below.alloc hqu0 (Below.size hqu0) _) | exact HK.out _ (box_two hqu0 HZ.out _ _).2)
              (first
                | (go_at_call 30; refine (drawn_any _ _ _).mono ?_; rintro e u0 ⟨rfl, hbu0⟩; (first | (have hz := HZ.out.up hbu0; have z0 := hz.cell 0 rfl; have z1 := hz.cell 1 rfl; have y0 := hz.free 0; have y1 := hz.free 1; have HZ := Lib.hid hz; clear hz) | (have hz := boxIn_drew hbu0; have z0 := hz.cell 0 rfl; have z1 := hz.cell 1 rfl; have y0 := hz.free 0; have y1 := hz.free 1; have HZ := Lib.hid hz; clear hz) | (have hz := boxIn_new (n := wr.heap.size) hqu1.size hbu0; have z0 := hz.cell 0 rfl; have z1 := hz.cell 1 rfl; have y0 := hz.free 0; have y1 := hz.free 1; have HZ := Lib.hid hz; clear hz) | (have hz := boxIn_new (n := wr.heap.size) hqu0.size hbu0; have z0 := hz.cell 0 rfl; have z1 := hz.cell 1 rfl; have y0 := hz.free 0; have y1 := hz.free 1; have HZ := Lib.hid hz; clear hz) | skip); have hqu0 : Below wr.heap.size wr u0 := below_then (And.right (And.right (And.right (by assumption)))) hbu0)
                | (go_at_call 29; refine (chanceV hc.out d0 d1 n0 n1 (by omega) (by omega) HV _).mono ?_; rintro e u1 ⟨rfl, hbu1⟩; (first | (have hz := HZ.out.up hbu1; have z0 := hz.cell 0 rfl; have z1 := hz.cell 1 rfl; have y0 := hz.free 0; have y1 := hz.free 1; have HZ := Lib.hid hz; clear hz) | (have hz := boxIn_drew hbu1; have z0 := hz.cell 0 rfl; have z1 := hz.cell 1 rfl; have y0 := hz.free 0; have y1 := hz.free 1; have HZ := Lib.hid hz; clear hz) | (have hz := boxIn_new (n := wr.heap.size) hqu1.size hbu1; have z0 := hz.cell 0 rfl; have z1 := hz.cell 1 rfl; have y0 := hz.free 0; have y1 := hz.free 1; have HZ := Lib.hid hz; clear hz) | (have hz := boxIn_new (n := wr.heap.size) hqu0.size hbu1; have z0 := hz.cell 0 rfl; have z1 := hz.cell 1 rfl; have y0 := hz.free 0; have y1 := hz.free 1; have HZ := Lib.hid hz; clear hz) | skip); have hqu1 : Below wr.heap.size wr u1 := below_then (And.right (And.right (And.right (by assumption)))) hbu1))
            all_goals
              go_wp2_with fail
              go_meet
              first | exact ⟨(box_last hqu1 _ _).1, rfl, (box_last hqu1 _ _).2⟩ | exact ⟨(box_two hqu1 HZ.out _ _).1, rfl, (box_two hqu1 HZ.out _ _).2⟩
        case rest =>
          obtain ⟨v1, rfl⟩ : ∃ x, x = wc := ⟨_, rfl⟩
          obtain ⟨⟨Bp, rfl, hn', hh⟩, rfl, hbc⟩ := hcut
          replace HC := Lib.hid (heap_lift HC.out hbc)
          replace HBR := Lib.hid (below_then HBR.out hbc)
          have HBp := Lib.hid hh
          clear hbc HK hn' hh
          go_wp2_with fail
          have HK : Hid (∀ v : World, Below v1.heap.size v1 v → (v.cell? ⟨Bc, 0, none⟩ = some (.int .i64 b) ∧ v.cell? ⟨Bc, 1, none⟩ = some (.int .i64 lo) ∧ v.cell? ⟨Bc, 2, none⟩ = some (.int .i64 hi) ∧ Below v1.heap.size v1 v)) :=
            Lib.hid (fun v k => ⟨below_cell k (heap_cell HC.out (j := 0) rfl), below_cell k (heap_cell HC.out (j := 1) rfl), below_cell k (heap_cell HC.out (j := 2) rfl), k⟩)
          go_cut [16, 17] from 49 to 106 (fun s t wx => BoxAt wx s #[.int .i64 qn, .int .i64 qd] 31 v1.heap.size ∧ t = .int .i64 0 ∧ Below v1.heap.size v1 wx)
          case first =>
            as_aux_lemma =>
              go_region_held3 (fun v => v.cell? ⟨Bc, 0, none⟩ = some (.int .i64 b) ∧ v.cell? ⟨Bc, 1, none⟩ = some (.int .i64 lo) ∧ v.cell? ⟨Bc, 2, none⟩ = some (.int .i64 hi) ∧ Below v1.heap.size v1 v)
                (first | exact HK.out _ (Below.refl _ _).drew | exact HK.out _ ((Below.refl _ _).alloc (Nat.le_refl _) _).drew | exact HK.out _ hqu1 | exact HK.out _ (Below.alloc hqu1 (Below.size hqu1) _) | exact HK.out _ (box_two hqu1 HZ.out _ _).2 | exact HK.out _ hqu0 | exact HK.out _ (Below.alloc hqu0 (Below.size hqu0) _) | exact HK.out _ (box_two hqu0 HZ.out _ _).2)
                (first
                  | (go_at_call 30; refine (drawn_any _ _ _).mono ?_; rintro e u0 ⟨rfl, hbu0⟩; (first | (have hz := HZ.out.up hbu0; have z0 := hz.cell 0 rfl; have z1 := hz.cell 1 rfl; have y0 := hz.free 0; have y1 := hz.free 1; have HZ := Lib.hid hz; clear hz) | (have hz := boxIn_drew hbu0; have z0 := hz.cell 0 rfl; have z1 := hz.cell 1 rfl; have y0 := hz.free 0; have y1 := hz.free 1; have HZ := Lib.hid hz; clear hz) | (have hz := boxIn_new (n := v1.heap.size) hqu1.size hbu0; have z0 := hz.cell 0 rfl; have z1 := hz.cell 1 rfl; have y0 := hz.free 0; have y1 := hz.free 1; have HZ := Lib.hid hz; clear hz) | (have hz := boxIn_new (n := v1.heap.size) hqu0.size hbu0; have z0 := hz.cell 0 rfl; have z1 := hz.cell 1 rfl; have y0 := hz.free 0; have y1 := hz.free 1; have HZ := Lib.hid hz; clear hz) | skip); have hqu0 : Below v1.heap.size v1 u0 := below_then (And.right (And.right (And.right (by assumption)))) hbu0)
                  | (go_at_call 31; refine (atMostV hc.out d0 d1 n0 n1 (by omega) (by omega) HU _).mono ?_; rintro e u1 ⟨rfl, hbu1⟩; (first | (have hz := HZ.out.up hbu1; have z0 := hz.cell 0 rfl; have z1 := hz.cell 1 rfl; have y0 := hz.free 0; have y1 := hz.free 1; have HZ := Lib.hid hz; clear hz) | (have hz := boxIn_drew hbu1; have z0 := hz.cell 0 rfl; have z1 := hz.cell 1 rfl; have y0 := hz.free 0; have y1 := hz.free 1; have HZ := Lib.hid hz; clear hz) | (have hz := boxIn_new (n := v1.heap.size) hqu1.size hbu1; have z0 := hz.cell 0 rfl; have z1 := hz.cell 1 rfl; have y0 := hz.free 0; have y1 := hz.free 1; have HZ := Lib.hid hz; clear hz) | (have hz := boxIn_new (n := v1.heap.size) hqu0.size hbu1; have z0 := hz.cell 0 rfl; have z1 := hz.cell 1 rfl; have y0 := hz.free 0; have y1 := hz.free 1; have HZ := Lib.hid hz; clear hz) | skip); have hqu1 : Below v1.heap.size v1 u1 := below_then (And.right (And.right (And.right (by assumption)))) hbu1))
              all_goals
                go_wp2_with fail
                go_meet
                first | exact ⟨(box_last hqu1 _ _).1, rfl, (box_last hqu1 _ _).2⟩ | exact ⟨(box_two hqu1 HZ.out _ _).1, rfl, (box_two hqu1 HZ.out _ _).2⟩
          case rest =>
            obtain ⟨v2, rfl⟩ : ∃ x, x = wc := ⟨_, rfl⟩
            obtain ⟨⟨Bq, rfl, hn', hh⟩, rfl, hbc⟩ := hcut
            replace HC := Lib.hid (heap_lift HC.out hbc)
            replace HBR := Lib.hid (below_then HBR.out hbc)
            replace HBp := Lib.hid (heap_lift HBp.out hbc)
            have HBq := Lib.hid hh
            clear hbc HK hn' hh
            have z0 := heap_cell HBp.out (j := 0) rfl
            have z1 := heap_cell HBp.out (j := 1) rfl
            go_wp2_with fail
            refine (overOk m0 m1 s0 s1 HV2 _).mono ?_
            rintro e v3 ⟨rfl, hb3⟩
            replace HBq := Lib.hid (heap_lift HBq.out hb3)
            replace HBR := Lib.hid (below_then HBR.out hb3)
            clear hb3 z0 z1
            have z0 := heap_cell HBq.out (j := 0) rfl
            have z1 := heap_cell HBq.out (j := 1) rfl
            go_wp2_with fail
            refine (overOk (show 0 ≤ F + M by omega) FM s0 s1 HU2 _).mono ?_
            rintro e v4 ⟨rfl, hb4⟩
            replace HBR := Lib.hid (below_then HBR.out hb4)
            clear hb4 z0 z1
            go_wp2_with fail
            go_roundw
            case rel => exact ⟨k + 1, by omega, by go_num, by rw [HFS.out], by rw [HGS.out], HBR.out⟩
            case measure => (simp [intOf] <;> omega)
      · obtain rfl : k = n + 1 := by omega
        obtain rfl : F = S := by
          rw [← hF, ← hS.out, ← Pure.fewTo_all (b := b) (d := d) (o := (n : Int)) (by omega) (by omega) (by omega), show ((n : Int) + 1).toNat = n + 1 by omega]
        have HT : Hid (G = Pure.total b d n) := Lib.hid (by rw [← hG, ← Pure.midTo_all, show ((n : Int) + 1).toNat = n + 1 by omega])
        have HV : Hid (partV (Pure.total b d n) (Pure.sets b n) = .agg #[.int .i64 (G / Pure.gcd G F), .int .i64 (F / Pure.gcd G F)]) := Lib.hid (by rw [← HT.out, hS.out])
        have HV2 : Hid (partV G F = .agg #[.int .i64 (G / Pure.gcd G F), .int .i64 (F / Pure.gcd G F)]) := Lib.hid rfl
        have dn0 : 0 ≤ d * n := Int.mul_nonneg (by omega) (by omega)
        have dn1 : d * n ≤ 1296 := Int.le_trans (Int.mul_le_mul (show d ≤ 36 by omega) (show (n : Int) ≤ 36 by omega) (by omega) (by decide)) (by decide)
        have HV3 : Hid (partV (d * n) b = .agg #[.int .i64 (G / Pure.gcd G F), .int .i64 (F / Pure.gcd G F)]) := Lib.hid (by
          rw [← HV2.out]
          refine (part_alike G0 s0 dn0 (by omega) ?_).symm
          rw [HT.out, ← hS.out]
          exact Pure.total_share (by omega) (by omega) (by omega))
        obtain ⟨pn, hpn⟩ : ∃ pn, G / Pure.gcd G F = pn := ⟨_, rfl⟩
        obtain ⟨pd, hpd⟩ : ∃ pd, F / Pure.gcd G F = pd := ⟨_, rfl⟩
        rw [hpn, hpd] at HV HV2 HV3
        have c0 := heap_cell HC.out (j := 0) rfl
        have c1 := heap_cell HC.out (j := 1) rfl
        have c2 := heap_cell HC.out (j := 2) rfl
        clear hF hG hbr hpn hpd
        go_wp2_with fail
        refine (meanV hc.out d0 d1 n0 n1 HV _).mono ?_
        rintro e v1 ⟨rfl, hb1⟩
        have hb2 := hb1.alloc hb1.size (.cells #[.int .i64 pn, .int .i64 pd] 31)
        replace HC := Lib.hid (heap_lift HC.out hb2)
        replace HBR := Lib.hid (below_then HBR.out hb2)
        have hx := heap_top v1 (.cells #[.int .i64 pn, .int .i64 pd] 31) rfl
        obtain ⟨Bm, hBm⟩ : ∃ Bm, v1.heap.size = Bm := ⟨_, rfl⟩
        obtain ⟨v2, hv2⟩ : ∃ v2, v1.alloc (.cells #[.int .i64 pn, .int .i64 pd] 31) = v2 := ⟨_, rfl⟩
        rw [hBm] at hx
        rw [hv2] at HC HBR hx
        have HBm := Lib.hid hx
        clear hb1 hb2 hx c0 c1 c2
        go_wp2_with fail
        clear hBm hv2
        have HK : Hid (∀ v : World, Below v2.heap.size v2 v → (v.cell? ⟨Bc, 0, none⟩ = some (.int .i64 b) ∧ v.cell? ⟨Bm, 0, none⟩ = some (.int .i64 pn) ∧ v.cell? ⟨Bm, 1, none⟩ = some (.int .i64 pd) ∧ Below v2.heap.size v2 v)) :=
          Lib.hid (fun v k => ⟨below_cell k (heap_cell HC.out (j := 0) rfl), below_cell k (heap_cell HBm.out (j := 0) rfl), below_cell k (heap_cell HBm.out (j := 1) rfl), k⟩)
        have t1 : IntKind.i64.wrap (d * n) = d * n := IntWalk.i64_in _ (by omega)
        go_region_held3 (fun v => v.cell? ⟨Bc, 0, none⟩ = some (.int .i64 b) ∧ v.cell? ⟨Bm, 0, none⟩ = some (.int .i64 pn) ∧ v.cell? ⟨Bm, 1, none⟩ = some (.int .i64 pd) ∧ Below v2.heap.size v2 v)
          (first | exact HK.out _ (Below.refl _ _).drew | with_reducible exact HK.out _ hqv3)
          (first
            | (go_at_call 37; (first | with_reducible refine (leastV G0 (by omega) s0 (by omega) HV2 _).mono ?_ | with_reducible refine (leastV dn0 (by omega) (show 0 < b by omega) (by omega) HV3 _).mono ?_); rintro e v3 ⟨rfl, hbv3⟩; have hqv3 : Below v2.heap.size v2 v3 := below_then (And.right (And.right (And.right (by assumption)))) hbv3))
        all_goals
          go_wp2_with fail
          go_ret
          exact ⟨rfl, HB.out.trans ((below_then HBR.out hqv3).mono HB.out.size)⟩

/-- The walk of SampleWhole. -/
theorem whole_walk (b lo hi x y : Int) (x0 : 0 ≤ x) (x1 : x ≤ 255) (y0 : 0 ≤ y) (y1 : y ≤ 255) (w : World) :
    Calls Try.prog 6 #[cargoV b lo hi, .int .u8 x, .int .u8 y] w fun e w' => e = .returned (.bool true) ∧ Below w.heap.size w w' := by
  cases hok : Pure.okCargo b lo hi with
  | false => exact whole_bad b lo hi x y (Lib.hid hok) w
  | true =>
    have hk := hok
    unfold Pure.okCargo at hk
    rw [decide_eq_true_eq] at hk
    obtain ⟨b1, b2, l0, l1, hb⟩ := hk
    have e0 : 0 ≤ x % (hi - lo + 1) := Int.emod_nonneg _ (by omega)
    have e1 : x % (hi - lo + 1) < hi - lo + 1 := Int.emod_lt_of_pos _ (by omega)
    have e2 : 0 ≤ y % (b + 1) := Int.emod_nonneg _ (by omega)
    have e3 : y % (b + 1) < b + 1 := Int.emod_lt_of_pos _ (by omega)
    obtain ⟨n, hn⟩ : ∃ n : Nat, y % (b + 1) = n := ⟨(y % (b + 1)).toNat, by omega⟩
    exact whole_good b lo hi x y _ _ n (Lib.hid hok) b1 b2 l0 l1 (by omega) hb x0 x1 y0 y1 (Lib.hid rfl) (Lib.hid hn) (Lib.hid rfl) (by omega) (by omega) (by omega) (by omega) (Pure.sets_pos (by omega) (by omega)) (Pure.sets_le b2) w

end Go.Proofs.Ytnldipniaphmgaa

namespace Go.Proofs.Ytnldipniaphmgaa
open Go.ChangeShapes Go.WideShapes Go.ChangeAt Go.RowKit Go.Joins

theorem u8_span {n : Int} (h : (Lit.int .u8 n).wf = true) : 0 ≤ n ∧ n ≤ 255 := by
  simp [Lit.wf, IntKind.min, IntKind.max, IntKind.bits, IntKind.signed] at h
  omega

set_option maxRecDepth 100000 in
theorem whole_lifted (os : Os) (started : os.Started) (H : Type) (enc : TypeId × Value → H) :
    ReturnsInHanded {} Try.checked os 6 .any (Rows.sampleWholeSpec.pre6 enc Try.prog Try.f6 Rows.sampleWholeRow.domain false) (Rows.sampleWholeSpec.post enc Try.prog Try.f6 false true false false) := by
  refine returnsInHanded_of_change (C := Try.checked) ownKnob_none started (by kernel_rfl) Try.func6
    (ChangeSpec.witness6 (enc := enc) (C := Try.checked) false ⟨#[], #[.agg #[.int .i64 0, .int .i64 0, .int .i64 0], .int .u8 0, .int .u8 0], []⟩ 8 (by kernel_rfl) (by kernel_rfl) (by kernel_rfl) (by kernel_rfl)) ?_
  intro W base args ds gs before hval0 hW _ _
  have hval : ∀ (j : Nat) t v, Try.f6.params[j]? = some t → args[j]? = some v → Value.okWide Try.prog W .any base t v := hval0
  have hW' := hW
  obtain ⟨pp, qq, hA0, hV, rfl, hfz, hnd⟩ := hW
  have hA : DataW.TrodAll enc Try.prog W 0 (fun _ => true) true Try.f6.params.toList args.toList ds pp := hA0
  rw [Try.params6] at hA hval
  obtain ⟨v0, vs0, d0, ds0, p0, q0, hargs, rfl, rfl, h0, r0⟩ := trodAll_cons hA
  obtain ⟨v1, vs1, d1, ds1, p1, q1, rfl, rfl, rfl, h1, r1⟩ := trodAll_cons r0
  obtain ⟨v2, vs2, d2, ds2, p2, q2, rfl, rfl, rfl, h2, r2⟩ := trodAll_cons r1
  obtain ⟨rfl, rfl, rfl⟩ := trodAll_nil r2
  obtain rfl : args = #[v0, v1, v2] := by cases args; simp_all
  obtain ⟨rfl, rfl⟩ := trodVars_none hV
  obtain ⟨b0, lo0, hi0, rfl, rfl, rfl, wb0, wl0, wh0⟩ := open_cargo (hval 0 25 v0 rfl rfl) h0
  obtain ⟨a1, rfl, rfl, rfl, wf1⟩ := open_int Try.underlying5 (hval 1 5 v1 rfl rfl) h1
  obtain ⟨a2, rfl, rfl, rfl, wf2⟩ := open_int Try.underlying5 (hval 2 5 v2 rfl rfl) h2
  clear hA0 hval0
  simp only [List.append_nil] at hW'
  refine (whole_walk b0 lo0 hi0 a1 a2 (u8_span wf1).1 (u8_span wf1).2 (u8_span wf2).1 (u8_span wf2).2 W).mono fun e W' ⟨he, hb⟩ => ?_
  subst he
  refine ⟨_, rfl, _, _, _, [], [], [], hW', ?_, ?_, rfl, hb.frame _, fun h => by cases h⟩
  · exact trodAll_mk1 (shut_bool Try.underlying4 true)
  · exact trodAll_cons_mk (shut_cargo wb0 wl0 wh0) (trodAll_cons_mk (shut_int Try.underlying5 wf1) (trodAll_cons_mk (shut_int Try.underlying5 wf2) trodAll_mk0))

/-- SampleWhole returns true for every input. -/
theorem whole_holds : Rows.SampleWholeSaid :=
  OpenClaim.holds_of_wide 6 Try.f6 rfl rfl rfl rfl rfl rfl rfl ⟨rfl, rfl, rfl, rfl, rfl⟩ rfl rfl rfl rfl rfl (by kernel_rfl) Try.func6 (by kernel_rfl)
    (of_decide_eq_true (by kernel_rfl)) (by unfold Func.isWrapper; first | (rw [if_pos (by decide +kernel)]; kernel_rfl) | (rw [if_neg (by decide +kernel)]; exact ⟨rfl, rfl⟩))
    (fun os started H enc _ => whole_lifted os started H enc)

end Go.Proofs.Ytnldipniaphmgaa
