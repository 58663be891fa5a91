/-
  The contract of the reference's Fair.
-/
import Derived.Test.YteckpbghmhelpaaFair
namespace Go.Proofs.Yteckpbghmhelpaa
open Go.RowKit Go.Shelf

namespace Pure
theorem first4_true {a b c d : Bool} (x y z t : Int) (ha : a = true) (hb : b = true) (hc : c = true) (hd : d = true) : first4 (err a x) (err b y) (err c z) (err d t) = 0 := by subst ha hb hc hd; rfl
theorem first4_1 {b c d : Bool} {x : Int} (y z t : Int) (hx : x ≠ 0) : first4 (err false x) (err b y) (err c z) (err d t) = x := by unfold first4 err; simp [hx]
theorem first4_2 {c d : Bool} {y : Int} (x z t : Int) (hy : y ≠ 0) : first4 (err true x) (err false y) (err c z) (err d t) = y := by unfold first4 err; simp [hy]
theorem first4_3 {d : Bool} {z : Int} (x y t : Int) (hz : z ≠ 0) : first4 (err true x) (err true y) (err false z) (err d t) = z := by unfold first4 err; simp [hz]
theorem first4_4 {t : Int} (x y z : Int) (ht : t ≠ 0) : first4 (err true x) (err true y) (err true z) (err false t) = t := by unfold first4 err; simp [ht]
end Pure

set_option maxHeartbeats 2000000 in
set_option maxRecDepth 100000 in
theorem rFair_any (b lo hi d o : Int) (a : Option Addr) (len cap : Nat) (F P : Nat → Int) (hl : len ≤ 9223372036854775807) (w : World) (ht : TermsAt w a len F P) :
    Calls Try.prog 49 #[cargoV b lo hi, .int .i64 d, .int .i64 o, .slice a len cap] w fun e w' => e = .returned (Pure.res2 (Pure.first4 (Pure.err (Pure.okCargo b lo hi) 10) (Pure.err (Pure.okIn lo hi d) 2) (Pure.err (Pure.okTerms len F P) 14) (Pure.err (Pure.okIn 0 b o) 2)) (partV (Pure.fair b d o len F P) (Pure.sets b o))) ∧ Below w.heap.size w w' := by
  obtain ⟨r1, h1⟩ : ∃ r, Pure.okCargo b lo hi = r := ⟨_, rfl⟩
  obtain ⟨r2, h2⟩ : ∃ r, Pure.okIn lo hi d = r := ⟨_, rfl⟩
  obtain ⟨r3, h3⟩ : ∃ r, Pure.okIn 0 b o = r := ⟨_, rfl⟩
  have h4 : (decide (0 ≤ o) && decide (o ≤ b)) = r3 := by rw [← h3]; unfold Pure.okIn; rw [Bool.eq_iff_iff]; simp
  obtain ⟨r5, h5⟩ : ∃ r, Pure.okTerms len F P = r := ⟨_, rfl⟩
  have HTM := Lib.hid ht
  clear ht
  have H5 := Lib.hid h5
  clear h5
  have H1 := Lib.hid h1
  have H2 := Lib.hid h2
  have H3 := Lib.hid h3
  have H4 := Lib.hid h4
  clear h1 h2 h3 h4
  go_enter Try.func49, Try.ntmps49
  go_wp2_with fail
  obtain ⟨W1, hW1⟩ : ∃ W1, (w.alloc (.cells #[.int .i64 b, .int .i64 lo, .int .i64 hi] 25)).alloc (.cells #[.int .i64 0, .int .i64 0] 34) = W1 := ⟨_, rfl⟩
  have HB1 : Hid (Below w.heap.size w W1) := by rw [← hW1]; exact Lib.hid (((Below.refl _ _).alloc (Nat.le_refl _) _).alloc (by simp) _)
  have HSZ : Hid (W1.heap.size = w.heap.size + 2) := by rw [← hW1]; exact Lib.hid (by simp)
  have e : ∀ j v, (#[Value.int .i64 b, .int .i64 lo, .int .i64 hi])[j]? = some v → W1.cell? ⟨w.heap.size, j, none⟩ = some v := by rw [← hW1]; intro j v h; exact cell_up ((cells_top _ _ _ rfl j).trans h) _
  have r : ∀ j v, (#[Value.int .i64 0, .int .i64 0])[j]? = some v → W1.cell? ⟨w.heap.size + 1, j, none⟩ = some v := by rw [← hW1]; intro j v h; exact (cells_top _ _ _ (by simp) j).trans h
  have fr : ∀ j, W1.frozen? ⟨w.heap.size + 1, j, none⟩ = false := by rw [← hW1]; intro j; exact frozen_top _ _ _ (by simp) j
  rw [hW1]
  clear hW1
  refine (rCargo_any b lo hi _).mono ?_
  rintro e2 w' ⟨rfl, rfl⟩
  rw [H1.out]
  have e0 := cell_up (e 0 _ rfl) (.cells #[.int .i64 b, .int .i64 lo, .int .i64 hi] 25)
  have e1 := cell_up (e 1 _ rfl) (.cells #[.int .i64 b, .int .i64 lo, .int .i64 hi] 25)
  have e2 := cell_up (e 2 _ rfl) (.cells #[.int .i64 b, .int .i64 lo, .int .i64 hi] 25)
  have r0 := cell_up (r 0 _ rfl) (.cells #[.int .i64 b, .int .i64 lo, .int .i64 hi] 25)
  have r1' := cell_up (r 1 _ rfl) (.cells #[.int .i64 b, .int .i64 lo, .int .i64 hi] 25)
  have hBa : Below W1.heap.size W1 (W1.alloc (.cells #[.int .i64 b, .int .i64 lo, .int .i64 hi] 25)) := (Below.refl _ _).alloc (Nat.le_refl _) _
  have f0 := below_frozen hBa (r 0 _ rfl) (fr 0)
  have f1 := below_frozen hBa (r 1 _ rfl) (fr 1)
  obtain ⟨W2, hW2⟩ : ∃ W2, W1.alloc (.cells #[.int .i64 b, .int .i64 lo, .int .i64 hi] 25) = W2 := ⟨_, rfl⟩
  rw [hW2] at e0 e1 e2 r0 r1' f0 f1 hBa ⊢
  have HB2 : Hid (Below w.heap.size w W2) := Lib.hid (HB1.out.trans (hBa.mono (by have := HSZ.out; omega)))
  have HSZ2 : Hid (w.heap.size + 2 ≤ W2.heap.size) := Lib.hid (by have := HSZ.out; have := hBa.size; omega)
  clear hW2 hBa e r fr
  cases r1
  · go_wp2_with fail
    refine bodyPost_ret (v := .tuple #[.agg #[.int .i64 0, .int .i64 0], .int .i64 10]) (by simp [results, Try.results49, go_sem, r0, r1']) rfl ⟨?_, ?_⟩
    · rw [H1.out, Pure.first4_1 _ _ _ (by decide), Pure.res2_err (by decide)]
    · exact (HB2.out.setCell (p := ⟨w.heap.size + 1, 0, none⟩) (by simp) _).setCell (p := ⟨w.heap.size + 1, 1, none⟩) (by simp) _
  · go_wp2_with fail
    refine (rMay_any b lo hi d _).mono ?_
    rintro e3 w' ⟨rfl, rfl⟩
    rw [H2.out]
    have k0 := cell_up e0 (.cells #[.int .i64 b, .int .i64 lo, .int .i64 hi] 25)
    have k2 := cell_up r0 (.cells #[.int .i64 b, .int .i64 lo, .int .i64 hi] 25)
    have k3 := cell_up r1' (.cells #[.int .i64 b, .int .i64 lo, .int .i64 hi] 25)
    have hBb : Below W2.heap.size W2 (W2.alloc (.cells #[.int .i64 b, .int .i64 lo, .int .i64 hi] 25)) := (Below.refl _ _).alloc (Nat.le_refl _) _
    have m2 := below_frozen hBb r0 f0
    have m3 := below_frozen hBb r1' f1
    obtain ⟨W3, hW3⟩ : ∃ W3, W2.alloc (.cells #[.int .i64 b, .int .i64 lo, .int .i64 hi] 25) = W3 := ⟨_, rfl⟩
    rw [hW3] at k0 k2 k3 m2 m3 hBb ⊢
    have HB3 : Hid (Below w.heap.size w W3) := Lib.hid (HB2.out.trans (hBb.mono (by have := HSZ2.out; omega)))
    have HSZ3 : Hid (w.heap.size + 2 ≤ W3.heap.size) := Lib.hid (by have := HSZ2.out; have := hBb.size; omega)
    clear hW3 hBb e0 e1 e2 r0 r1' f0 f1
    cases r2
    · go_wp2_with fail
      refine bodyPost_ret (v := .tuple #[.agg #[.int .i64 0, .int .i64 0], .int .i64 2]) (by simp [results, Try.results49, go_sem, k2, k3]) rfl ⟨?_, ?_⟩
      · rw [H1.out, H2.out, Pure.first4_2 _ _ _ (by decide), Pure.res2_err (by decide)]
      · exact (HB3.out.setCell (p := ⟨w.heap.size + 1, 0, none⟩) (by simp) _).setCell (p := ⟨w.heap.size + 1, 1, none⟩) (by simp) _
    · go_wp2_with fail
      refine (rTerms_any a len cap F P hl _ (HTM.out.below HB3.out)).mono ?_
      rintro e7 W4 ⟨rfl, hB4⟩
      rw [H5.out]
      have m2 := below_frozen hB4 k2 m2
      have m3 := below_frozen hB4 k3 m3
      have k0 := below_cell hB4 k0
      have k2 := below_cell hB4 k2
      have k3 := below_cell hB4 k3
      have HB4 : Hid (Below w.heap.size w W4) := Lib.hid (HB3.out.trans (hB4.mono HB3.out.size))
      have HSZ4 : Hid (w.heap.size + 2 ≤ W4.heap.size) := Lib.hid (by have := HSZ3.out; have := hB4.size; omega)
      clear hB4 HB3 HSZ3
      cases r5
      · go_wp2_with fail
        refine bodyPost_ret (v := .tuple #[.agg #[.int .i64 0, .int .i64 0], .int .i64 14]) (by simp [results, Try.results49, go_sem, k2, k3]) rfl ⟨?_, ?_⟩
        · rw [H1.out, H2.out, H5.out, Pure.first4_3 _ _ _ (by decide), Pure.res2_err (by decide)]
        · exact (HB4.out.setCell (p := ⟨w.heap.size + 1, 0, none⟩) (by simp) _).setCell (p := ⟨w.heap.size + 1, 1, none⟩) (by simp) _
      · go_wp2_with fail
        refine (rWithin_any o 0 b _ H4.out _).mono ?_
        rintro e4 w' ⟨rfl, rfl⟩
        cases r3
        · go_wp2_with fail
          refine bodyPost_ret (v := .tuple #[.agg #[.int .i64 0, .int .i64 0], .int .i64 2]) (by simp [results, Try.results49, go_sem, k2, k3]) rfl ⟨?_, ?_⟩
          · rw [H1.out, H2.out, H5.out, H3.out, Pure.first4_4 _ _ _ (by decide), Pure.res2_err (by decide)]
          · exact (HB4.out.setCell (p := ⟨w.heap.size + 1, 0, none⟩) (by simp) _).setCell (p := ⟨w.heap.size + 1, 1, none⟩) (by simp) _
        · have q1 := H1.out
          have q2 := H2.out
          have q3 := H3.out
          unfold Pure.okCargo at q1
          unfold Pure.okIn at q2 q3
          simp only [decide_eq_true_eq] at q1 q2 q3
          obtain ⟨b1, b2, b3, b4, b5⟩ := q1
          obtain ⟨d1, d2⟩ := q2
          obtain ⟨o1, o2⟩ := q3
          obtain ⟨n, rfl⟩ : ∃ n : Nat, o = n := ⟨o.toNat, by omega⟩
          have HT : Hid (Pure.fair b d n len F P = Pure.sumTo b d n (fun j => Pure.off len F P n j) (n + 1)) := Lib.hid (by unfold Pure.fair Pure.sum; congr 1)
          go_wp2_with fail
          go_loopw [10, 11] (fun s t wr => ∃ k : Nat, k ≤ n + 1 ∧ s = .int .i64 (Pure.sumTo b d n (fun j => Pure.off len F P n j) k) ∧ t = .int .i64 k ∧ Below W4.heap.size W4 wr) (fun _ t _ => n + 1 - (intOf t).toNat)
          case atStart => exact ⟨0, Nat.zero_le _, rfl, rfl, Below.refl _ _⟩
          case round =>
            obtain ⟨k, hk, rfl, rfl, hwr⟩ := hrel
            have m2 := below_frozen hwr k2 m2
            have m3 := below_frozen hwr k3 m3
            have k0 := below_cell hwr k0
            have k2 := below_cell hwr k2
            have k3 := below_cell hwr k3
            have HBW : Hid (Below w.heap.size w wr) := Lib.hid (HB4.out.trans (hwr.mono (by have := HSZ4.out; omega)))
            have HWR := Lib.hid hwr
            clear hwr
            by_cases hlt : k < n + 1
            · have p1 := Pure.sumTo_nonneg (b := b) (d := d) (o := n) (f := fun j => Pure.off len F P n j) (n := n + 1) (fun j _ => (Pure.off_span H5.out n j).1) k hk
              have p2 := Pure.sumTo_le (b := b) (d := d) (o := n) (f := fun j => Pure.off len F P n j) (n := n + 1) (B := 68719476736000000) (fun j hj => Pure.mul_million' (Pure.ways_nonneg b d n j) (Pure.ways_le b2) (Pure.off_span H5.out n j).1 (Pure.off_span H5.out n j).2) k hk
              have p3 : Pure.sumTo b d n (fun j => Pure.off len F P n j) k ≤ 2542620639232000000 := by omega
              have p4 : 0 ≤ Pure.off len F P n k * Pure.ways b d n k := Int.mul_nonneg (Pure.off_span H5.out n k).1 (Pure.ways_nonneg _ _ _ _)
              have p5 : Pure.off len F P n k * Pure.ways b d n k ≤ 68719476736000000 := by rw [Int.mul_comm]; exact Pure.mul_million' (Pure.ways_nonneg b d n k) (Pure.ways_le b2) (Pure.off_span H5.out n k).1 (Pure.off_span H5.out n k).2
              have p6 : (k : Int) ≤ n := by omega
              clear p2
              have x0 := among_below k0
              have HTT : Hid (TermsAt wr a len F P) := Lib.hid (HTM.out.below HBW.out)
              have HSt : Hid (Below wr.heap.size wr wr.drew) := Lib.hid (Below.refl _ _).drew
              have hne : Nonempty (Among (Below wr.heap.size wr)) := ⟨⟨_, HSt.out⟩⟩
              have HC1 : Hid (∀ x : Among (Below wr.heap.size wr), Calls Try.prog 109 #[.slice a len cap, .int .i64 n, .int .i64 k] x.val fun e w' => e = .returned (.int .i64 (Pure.off len F P n k)) ∧ ∃ y : Among (Below wr.heap.size wr), w' = y.val) :=
                Lib.hid (fun x => calls_class ((rOff_any a len cap F P n k H5.out (by omega) (by omega) (by omega) (by omega) x.val (HTT.out.below x.ok)).mono fun e w' h => ⟨h.1, h.2 ▸ x.ok⟩))
              have HC2 : Hid (∀ x : Among (Below wr.heap.size wr), Calls Try.prog 76 #[.int .i64 b, .int .i64 d, .int .i64 n, .int .i64 k] x.val fun e w' => e = .returned (.int .i64 (Pure.ways b d n k)) ∧ ∃ y : Among (Below wr.heap.size wr), w' = y.val) :=
                Lib.hid (fun x => calls_class ((rCount_any b d n k (by omega) b2 (by omega) (by omega) (by omega) (by omega) (by omega) (by omega) (by omega) x.val).mono fun e w' h => ⟨h.1, h.2 ▸ x.ok⟩))
              clear k0 k2 k3 m2 m3
              go_wp2_with fail
              refine wp_region_class (Below wr.heap.size wr) (by kernel_rfl) (by kernel_rfl) HSt.out ?_
              repeat (go_big_quiet_step ((first | (go_at_call 109; with_reducible exact HC1.out _) | (go_at_call 76; with_reducible exact HC2.out _))))
              refine wpQuiet_nil ?_
              intro w3 hx
              have hB3 := among_out hx
              clear hx hne x0
              have HB3 : Hid (Below W4.heap.size W4 w3) := Lib.hid (HWR.out.trans (hB3.mono HWR.out.size))
              clear hB3
              go_wp2_with fail
              go_roundw
              case rel => exact ⟨k + 1, by omega, by rw [Pure.sumTo_succ, Int.mul_comm (Pure.ways b d n k)], by go_num, HB3.out⟩
              case measure => simp [intOf]; omega
            · obtain rfl : k = n + 1 := by omega
              have HSZW : Hid (w.heap.size + 2 ≤ wr.heap.size) := Lib.hid (by have := HSZ4.out; have := HWR.out.size; omega)
              go_wp2_with fail
              refine (choose_any b n b2 _).mono ?_
              rintro e5 w' ⟨rfl, rfl⟩
              go_wp2_with fail
              have HT2 := HT.out
              refine (rLeast_any (Pure.sumTo b d n (fun j => Pure.off len F P n j) (n + 1)) _ (by rw [← HT2]; exact (Pure.fair_nonneg H5.out)) (by rw [← HT2]; exact Int.le_trans (Pure.fair_le H5.out b2 (by omega)) (by decide)) (Pure.sets_pos (by omega) o2) (Int.le_trans (Pure.sets_le b2) (by decide)) _).mono ?_
              rintro e6 w5 ⟨rfl, hb5⟩
              have s0 := below_cell hb5 k2
              have s1 := below_cell hb5 k3
              have t0 := below_frozen hb5 k2 m2
              have t1 := below_frozen hb5 k3 m3
              have HB5 := Lib.hid hb5
              clear hb5 k0 k2 k3 m2 m3 HT2
              go_wp2_with fail
              refine bodyPost_ret (v := .tuple #[partV (Pure.sumTo b d n (fun j => Pure.off len F P n j) (n + 1)) (Pure.sets b n), .int .i64 0]) (by simp [results, Try.results49, go_sem, s0, s1]) rfl ⟨?_, ?_⟩
              · rw [H1.out, H2.out, H5.out, H3.out, Pure.first4_true _ _ _ _ rfl rfl rfl rfl, Pure.res2_zero rfl, HT.out]
              · exact ((HBW.out.trans (HB5.out.mono (by have := HSZW.out; omega))).setCell (p := ⟨w.heap.size + 1, 0, none⟩) (by simp) _).setCell (p := ⟨w.heap.size + 1, 1, none⟩) (by simp) _

end Go.Proofs.Yteckpbghmhelpaa
