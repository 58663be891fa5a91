/-
  SampleFair returns true for every input, and the terms read afterwards as they read before: cargoes and terms that are not valid pass, the other numbers are taken into their spans by the statement itself. There is no condition.
  The contract of Fair.
  The contract of atMost, of the statements: whether a fraction is at most another one.
  Plain mathematics: what terms take off never falls with a dirty bag more, and what is fair lies between the least and the greatest that can be taken off.
  SampleFair: the walk of the law.
-/
import Derived.Test.YtnldipniaphmgaaOffTop
import Derived.Test.YtnldipniaphmgaaOver
import Derived.Test.YtnldipniaphmgaaRefC
import Derived.Test.YtnldipniaphmgaaVander
import Derived.Test.YtnldipniaphmgaaAlive
import Derived.Test.YtnldipniaphmgaaOpen
import Derived.Carry
import Derived.Deep.Slices

namespace Go.Proofs.Ytnldipniaphmgaa
open Go.RowKit Go.Shelf

namespace Pure
/-- The first of four codes that is an error. -/
def first4 (a b c d : Int) : Int := ([a, b, c, d].find? (· != 0)).getD 0
theorem first4_zero {a b c d : Int} (h : first4 a b c d = 0) : a = 0 ∧ b = 0 ∧ c = 0 ∧ d = 0 := by
  unfold first4 at h
  by_cases ha : a = 0
  · by_cases hb : b = 0
    · by_cases hc : c = 0
      · by_cases hd : d = 0
        · exact ⟨ha, hb, hc, hd⟩
        · simp [ha, hb, hc, hd] at h
      · simp [ha, hb, hc] at h
    · simp [ha, hb] at h
  · simp [ha] at h
theorem offTo_span {len : Nat} {F P : Nat → Int} (h : ∀ j, j < len → fits F P j) (o f : Int) : ∀ k, k ≤ len → 0 ≤ offTo F P o f k ∧ offTo F P o f k ≤ 1000000
  | 0, _ => by simp [offTo]
  | k + 1, hk => by
    by_cases hy : F k * o ≤ f * 100
    · rw [offTo_yes hy]
      have := h k (by omega)
      unfold fits at this
      omega
    · rw [offTo_no hy]
      exact offTo_span h o f k (by omega)
theorem off_span {len : Nat} {F P : Nat → Int} (h : okTerms len F P = true) (o f : Int) : 0 ≤ off len F P o f ∧ off len F P o f ≤ 1000000 := by
  have h2 : len ≤ 5 ∧ ∀ j, j < len → fits F P j := by unfold okTerms at h; simpa using h
  unfold off
  split
  · omega
  · exact offTo_span h2.2 o f len (Nat.le_refl _)
theorem mul_million {x y : Int} (_h0 : 0 ≤ x) (h1 : x ≤ 68719476736) (h2 : 0 ≤ y) (h3 : y ≤ 1000000) : x * y ≤ 249280325320399346 := by
  have := Int.mul_le_mul h1 h3 h2 (by decide : (0 : Int) ≤ 68719476736)
  omega
theorem mul_million' {x y : Int} (_h0 : 0 ≤ x) (h1 : x ≤ 68719476736) (h2 : 0 ≤ y) (h3 : y ≤ 1000000) : x * y ≤ 68719476736000000 := by
  have := Int.mul_le_mul h1 h3 h2 (by decide : (0 : Int) ≤ 68719476736)
  omega
/-- What all sets of o bags take off together. -/
def fair (b d o : Int) (len : Nat) (F P : Nat → Int) : Int := sum b d o (fun j => off len F P o j)
theorem fair_nonneg {b d o : Int} {len : Nat} {F P : Nat → Int} (h : okTerms len F P = true) : 0 ≤ fair b d o len F P := sumTo_nonneg (n := (o + 1).toNat) (fun j _ => (off_span h o j).1) _ (Nat.le_refl _)
theorem fair_le {b d o : Int} {len : Nat} {F P : Nat → Int} (h : okTerms len F P = true) (hb : b ≤ 36) (ho : o ≤ 36) : fair b d o len F P ≤ 2542620639232000000 := by
  have h := sumTo_le (b := b) (d := d) (o := o) (f := fun j => off len F P o j) (n := (o + 1).toNat) (B := 68719476736000000) (fun j hj => mul_million' (ways_nonneg b d o j) (ways_le hb) (off_span h o j).1 (off_span h o j).2) _ (Nat.le_refl _)
  unfold fair sum
  omega
end Pure

theorem firstError4 (a b c d : Int) (s cap : Nat) (w : World) (h0 : w.cell? ⟨s, 0, none⟩ = some (.int .i64 a)) (h1 : w.cell? ⟨s, 1, none⟩ = some (.int .i64 b)) (h2 : w.cell? ⟨s, 2, none⟩ = some (.int .i64 c)) (h3 : w.cell? ⟨s, 3, none⟩ = some (.int .i64 d)) :
    Calls Try.prog 52 #[.slice (some ⟨s, 0, none⟩) 4 cap] w fun e w' => e = .returned (.int .i64 (Pure.first4 a b c d)) ∧ Below w.heap.size w w' :=
  firstError_any s 4 cap [a, b, c, d] rfl (by omega) w (World.block_lt_of_cell? w _ h0) (fun j hj => by
    have : j = 0 ∨ j = 1 ∨ j = 2 ∨ j = 3 := by omega
    rcases this with rfl | rfl | rfl | rfl
    · exact h0
    · exact h1
    · exact h2
    · exact h3)

set_option maxHeartbeats 1000000 in
set_option maxRecDepth 100000 in
theorem fairOne_any (X : Nat) (a : Option Addr) (len cap : Nat) (F P : Nat → Int) (o j : Int) (hok : Pure.okTerms len F P = true) (ho0 : 0 ≤ o) (ho : o ≤ 36) (hj0 : 0 ≤ j) (hj : j ≤ o) (w : World)
    (hX : w.cell? ⟨X, 0, none⟩ = some (.slice a len cap)) (ht : TermsAt w a len F P) :
    Calls Try.prog 95 #[.agg #[.int .i64 o, .int .i64 j], .pointer (some ⟨X, 0, none⟩)] w fun e w' => e = .returned (.int .i64 (Pure.off len F P o j)) ∧ Below w.heap.size w w' := by
  have hX1 := cell_up hX (.cells #[.int .i64 o, .int .i64 j] 64)
  have hb : Below w.heap.size w (w.alloc (.cells #[.int .i64 o, .int .i64 j] 64)) := (Below.refl _ _).alloc (Nat.le_refl _) _
  have HT := Lib.hid (ht.below hb)
  have HB := Lib.hid hb
  have HO := Lib.hid hok
  clear hX ht hb hok
  go_enter Try.func95, Try.ntmps95
  go_wp2_with fail
  refine (off_any a len cap F P o j HO.out ho0 ho hj0 hj _ HT.out).mono ?_
  rintro e w2 ⟨rfl, hB2⟩
  have HB2 := Lib.hid hB2
  clear hB2
  go_wp2_with fail
  go_ret
  exact ⟨rfl, HB.out.trans (HB2.out.mono HB.out.size)⟩

set_option maxHeartbeats 2000000 in
set_option maxRecDepth 100000 in
/-- **Fair**. -/
theorem fair_any (b lo hi d o : Int) (a : Option Addr) (len cap : Nat) (F P : Nat → Int) (hl : len ≤ 9223372036854775807) (w : World) (ht : TermsAt w a len F P) :
    Calls Try.prog 50 #[cargoV b lo hi, .int .i64 d, .int .i64 o, .slice a len cap] w fun e w' => e = .returned (Pure.res2 (Pure.first4 (Pure.err (Pure.okCargo b lo hi) 10) (Pure.err (Pure.okIn lo hi d) 2) (Pure.err (Pure.okTerms len F P) 14) (Pure.err (Pure.okIn 0 b o) 2)) (partV (Pure.fair b d o len F P) (Pure.sets b o))) ∧ Below w.heap.size w w' := by
  have HT := Lib.hid ht
  clear ht
  go_enter Try.func50, Try.ntmps50
  go_upto_region 1 with fail
  obtain ⟨W1, hW1⟩ : ∃ W1, ((w.alloc (.cells #[.int .i64 b, .int .i64 lo, .int .i64 hi] 25)).alloc (.cells #[.slice a len cap] 95)).alloc (.cells #[.int .i64 0, .int .i64 0] 31) = W1 := ⟨_, rfl⟩
  have HB1 : Hid (Below w.heap.size w W1) := by rw [← hW1]; exact Lib.hid ((((Below.refl _ _).alloc (Nat.le_refl _) _).alloc (by simp) _).alloc (by simp; omega) _)
  have HSZ : Hid (W1.heap.size = w.heap.size + 3) := by rw [← hW1]; exact Lib.hid (by simp)
  have e : ∀ j v, (#[Value.int .i64 b, .int .i64 lo, .int .i64 hi])[j]? = some v → W1.cell? ⟨w.heap.size, j, none⟩ = some v := by rw [← hW1]; intro j v h; exact cell_up (cell_up ((cells_top _ _ _ rfl j).trans h) _) _
  have s0 : W1.cell? ⟨w.heap.size + 1, 0, none⟩ = some (.slice a len cap) := by rw [← hW1]; exact cell_up (cell_top _ _ _ (by simp)) _
  have r : ∀ j v, (#[Value.int .i64 0, .int .i64 0])[j]? = some v → W1.cell? ⟨w.heap.size + 1 + 1, j, none⟩ = some v := by rw [← hW1]; intro j v h; exact (cells_top _ _ _ (by simp) j).trans h
  have fr : ∀ j, W1.frozen? ⟨w.heap.size + 1 + 1, j, none⟩ = false := by rw [← hW1]; intro j; exact frozen_top _ _ _ (by simp) j
  rw [hW1]
  clear hW1
  have HK0 : Hid (W1.drew.cell? ⟨w.heap.size, 0, none⟩ = some (.int .i64 b) ∧ W1.drew.cell? ⟨w.heap.size, 1, none⟩ = some (.int .i64 lo) ∧ W1.drew.cell? ⟨w.heap.size, 2, none⟩ = some (.int .i64 hi) ∧ W1.drew.cell? ⟨w.heap.size + 1, 0, none⟩ = some (.slice a len cap) ∧ Below W1.heap.size W1 W1.drew) :=
    Lib.hid ⟨e 0 _ rfl, e 1 _ rfl, e 2 _ rfl, s0, (Below.refl _ _).drew⟩
  have HT1 : Hid (TermsAt W1 a len F P) := Lib.hid (HT.out.below HB1.out)
  have HKT : Hid (∀ u : World, (u.cell? ⟨w.heap.size, 0, none⟩ = some (.int .i64 b) ∧ u.cell? ⟨w.heap.size, 1, none⟩ = some (.int .i64 lo) ∧ u.cell? ⟨w.heap.size, 2, none⟩ = some (.int .i64 hi) ∧ u.cell? ⟨w.heap.size + 1, 0, none⟩ = some (.slice a len cap) ∧ Below W1.heap.size W1 u) → TermsAt u a len F P) := Lib.hid (fun u h => HT1.out.below h.2.2.2.2)
  have HKS : Hid (∀ u v : World, (u.cell? ⟨w.heap.size, 0, none⟩ = some (.int .i64 b) ∧ u.cell? ⟨w.heap.size, 1, none⟩ = some (.int .i64 lo) ∧ u.cell? ⟨w.heap.size, 2, none⟩ = some (.int .i64 hi) ∧ u.cell? ⟨w.heap.size + 1, 0, none⟩ = some (.slice a len cap) ∧ Below W1.heap.size W1 u) → Below u.heap.size u v →
      (v.cell? ⟨w.heap.size, 0, none⟩ = some (.int .i64 b) ∧ v.cell? ⟨w.heap.size, 1, none⟩ = some (.int .i64 lo) ∧ v.cell? ⟨w.heap.size, 2, none⟩ = some (.int .i64 hi) ∧ v.cell? ⟨w.heap.size + 1, 0, none⟩ = some (.slice a len cap) ∧ Below W1.heap.size W1 v)) :=
    Lib.hid (fun u v h k => ⟨below_cell k h.1, below_cell k h.2.1, below_cell k h.2.2.1, below_cell k h.2.2.2.1, h.2.2.2.2.trans (k.mono h.2.2.2.2.size)⟩)
  have HE := Lib.hid e
  have HS0 := Lib.hid s0
  have HR := Lib.hid r
  have HFR := Lib.hid fr
  clear e r fr s0
  go_cut [10] (fun s wx => s = .int .i64 (Pure.first4 (Pure.err (Pure.okCargo b lo hi) 10) (Pure.err (Pure.okIn lo hi d) 2) (Pure.err (Pure.okTerms len F P) 14) (Pure.err (Pure.okIn 0 b o) 2)) ∧ Below W1.heap.size W1 wx)
  case first =>
    go_region_held3 (fun w' => w'.cell? ⟨w.heap.size, 0, none⟩ = some (.int .i64 b) ∧ w'.cell? ⟨w.heap.size, 1, none⟩ = some (.int .i64 lo) ∧ w'.cell? ⟨w.heap.size, 2, none⟩ = some (.int .i64 hi) ∧ w'.cell? ⟨w.heap.size + 1, 0, none⟩ = some (.slice a len cap) ∧ Below W1.heap.size W1 w')
      (first | exact HK0.out | exact HKS.out _ _ (by assumption) (by assumption) | exact HKS.out _ _ (by assumption) ((Below.refl _ _).alloc (Nat.le_refl _) _))
      (first
        | (go_at_call 42; refine (check_any _ _ _ _).mono ?_; rintro e w' ⟨rfl, hb⟩)
        | (go_at_call 94; refine (checkTerms_any a len cap F P hl _ (HKT.out _ (by assumption))).mono ?_; rintro e w' ⟨rfl, hb⟩)
        | (go_at_call 86; refine (checkOpened_any _ _ _ _ _).mono ?_; rintro e w' ⟨rfl, hb⟩)
        | (go_at_call 54; refine (checkDirty1 _ _ _ d _ _ _ ?_).mono ?_; (first | exact cell_top _ _ _ rfl | (refine below_cell (by assumption) ?_; (first | exact cell_top _ _ _ rfl | exact cell_top_drew _ _ _ rfl | (refine below_cell (by assumption) ?_; (first | exact cell_top _ _ _ rfl | exact cell_top_drew _ _ _ rfl))))); rintro e w' ⟨rfl, hb⟩)
        | (go_at_call 52; refine (firstError4 (Pure.err (Pure.okCargo b lo hi) 10) (Pure.err (Pure.okIn lo hi d) 2) (Pure.err (Pure.okTerms len F P) 14) (Pure.err (Pure.okIn 0 b o) 2) _ _ _ (cells_top _ _ _ rfl 0) (cells_top _ _ _ rfl 1) (cells_top _ _ _ rfl 2) (cells_top _ _ _ rfl 3)).mono ?_; rintro e w' ⟨rfl, hb⟩))
    all_goals (go_wp2_with fail; go_meet; refine ⟨rfl, ?_⟩; exact And.right (And.right (And.right (And.right (by assumption)))))
  case rest =>
    obtain ⟨rfl, hBc⟩ := hcut
    obtain ⟨code, hcode⟩ : ∃ c, Pure.first4 (Pure.err (Pure.okCargo b lo hi) 10) (Pure.err (Pure.okIn lo hi d) 2) (Pure.err (Pure.okTerms len F P) 14) (Pure.err (Pure.okIn 0 b o) 2) = c := ⟨_, rfl⟩
    rw [hcode]
    have r0 := below_cell hBc (HR.out 0 _ rfl)
    have r1 := below_cell hBc (HR.out 1 _ rfl)
    have f0 := below_frozen hBc (HR.out 0 _ rfl) (HFR.out 0)
    have f1 := below_frozen hBc (HR.out 1 _ rfl) (HFR.out 1)
    have HBC := Lib.hid hBc
    have HCODE := Lib.hid hcode
    clear hBc hcode HK0 HKS HKT
    by_cases h0 : code = 0
    · subst h0
      obtain ⟨q1, q2, q4, q3⟩ := Pure.first4_zero HCODE.out
      have q1 := Pure.err_zero q1 (by decide)
      have q2 := Pure.err_zero q2 (by decide)
      have q3 := Pure.err_zero q3 (by decide)
      have q4 := Pure.err_zero q4 (by decide)
      have Q4 := Lib.hid q4
      clear q4
      unfold Pure.okCargo at q1
      unfold Pure.okIn at q2 q3
      simp only [decide_eq_true_eq] at q1 q2 q3
      obtain ⟨b1, b2, b3, b4, b5⟩ := q1
      obtain ⟨d1, d2⟩ := q2
      obtain ⟨o1, o2⟩ := q3
      have c0 := below_cell HBC.out (HE.out 0 _ rfl)
      have c1 := below_cell HBC.out (HE.out 1 _ rfl)
      have c2 := below_cell HBC.out (HE.out 2 _ rfl)
      go_wp2_with fail
      refine (work_any b lo hi _).mono ?_
      rintro e w2 ⟨M, T, C, rfl, hMw, hw2, hB2⟩
      have k2 := below_cell hB2 r0
      have k3 := below_cell hB2 r1
      have m2 := below_frozen hB2 r0 f0
      have m3 := below_frozen hB2 r1 f1
      have K2 := Lib.hid k2
      have K3 := Lib.hid k3
      have M2 := Lib.hid m2
      have M3 := Lib.hid m3
      have HMW := Lib.hid hMw
      have HB2 := Lib.hid hB2
      have HW2 := Lib.hid hw2
      clear hMw hB2 hw2 c0 c1 c2 r0 r1 f0 f1 k2 k3 m2 m3
      have HWA : Hid (Cnt (w2.alloc (.cells #[.int .i64 b, .int .i64 lo, .int .i64 hi, setsV T C] 104)) M T C) := Lib.hid (HW2.out.alloc _)
      go_wp2_with fail
      have hsl : w2.cell? ⟨w.heap.size + 1, 0, none⟩ = some (.slice a len cap) := below_cell HB2.out (below_cell HBC.out HS0.out)
      have htt : TermsAt w2 a len F P := (HT1.out.below HBC.out).below HB2.out
      have hsl2 := cell_up hsl (.cells #[.int .i64 b, .int .i64 lo, .int .i64 hi, setsV T C] 104)
      have htt2 : TermsAt (w2.alloc (.cells #[.int .i64 b, .int .i64 lo, .int .i64 hi, setsV T C] 104)) a len F P := htt.below ((Below.refl _ _).alloc (Nat.le_refl _) _)
      have HSL := Lib.hid hsl2
      have HTT := Lib.hid htt2
      clear hsl hsl2 htt htt2
      refine (sum_any b lo hi d o (by omega) b2 (by omega) (by omega) (by omega) o1 (by omega) 95 #[.pointer (some ⟨w.heap.size + 1, 0, none⟩)] (fun j => Pure.off len F P o j) _ HWA.out (enters_of Try.func95 (by kernel_rfl) rfl)
        (fun W hs j hj => (fairOne_any (w.heap.size + 1) a len cap F P o j Q4.out o1 (by omega) (by omega) (by omega) W (hs.cell HSL.out (cell_not_map HWA.out.memo HSL.out)) (HTT.out.step hs HWA.out.memo)).mono fun e w' h => ⟨h.1, Step.of_below h.2 hs.memo⟩)
        (fun j hj => ⟨(Pure.off_span Q4.out o j).1, Pure.mul_million (Pure.ways_nonneg _ _ _ _) (Pure.ways_le b2) (Pure.off_span Q4.out o j).1 (Pure.off_span Q4.out o j).2⟩)).mono ?_
      rintro e w3 ⟨rfl, hs3⟩
      have h30 : ∀ j v, (#[Value.int .i64 b, .int .i64 lo, .int .i64 hi, setsV T C])[j]? = some v → w3.cell? ⟨w2.heap.size, j, none⟩ = some v := fun j v h => hs3.cell ((cells_top _ _ _ rfl j).trans h) (by have := HW2.out.memo.lt; simp; omega)
      have a0 := h30 0 _ rfl
      have a1 := h30 1 _ rfl
      have a2 := h30 2 _ rfl
      have a3 := h30 3 _ rfl
      have HS3 := Lib.hid hs3
      clear hs3 h30
      go_wp2_with fail
      refine (draws_any b lo hi o b2 _ (HWA.out.step HS3.out)).mono ?_
      rintro e w4 ⟨rfl, hs4⟩
      have HS4 := Lib.hid hs4
      clear hs4
      go_wp2_with fail
      refine (part_any _ _ (Pure.fair_nonneg Q4.out) (Int.le_trans (Pure.fair_le Q4.out b2 (by omega)) (by decide)) (Pure.sets_pos o1 o2) (Int.le_trans (Pure.sets_le b2) (by decide)) _).mono ?_
      rintro e w5 ⟨rfl, hb5⟩
      have hst : Step M w2 w5 := (((Step.refl HW2.out.memo).alloc _).trans (HS3.out.trans HS4.out)).trans (Step.of_below hb5 HS4.out.memo)
      have r0 := hst.cell K2.out (cell_not_map HW2.out.memo K2.out)
      have r1 := hst.cell K3.out (cell_not_map HW2.out.memo K3.out)
      have f0 := hst.frozen K2.out (cell_not_map HW2.out.memo K2.out) M2.out
      have f1 := hst.frozen K3.out (cell_not_map HW2.out.memo K3.out) M3.out
      have HST := Lib.hid hst
      clear hst hb5 a0 a1 a2 a3
      go_wp2_with fail
      refine bodyPost_ret (v := .tuple #[partV (Pure.fair b d o len F P) (Pure.sets b o), .int .i64 0]) (by simp [results, Try.results50, go_sem, r0, r1]) rfl ⟨?_, ?_⟩
      · rw [HCODE.out, Pure.res2_zero rfl]
      · have z1 := HSZ.out
        have z2 := HBC.out.size
        have z3 := HB2.out.size
        have z4 := HMW.out
        have hB : Below w.heap.size w w5 := below_step ((HB1.out.trans (HBC.out.mono (by omega))).trans (HB2.out.mono (by omega))) HST.out (by omega) (by omega)
        exact (hB.setCell (p := ⟨w.heap.size + 1 + 1, 0, none⟩) (by simp; omega) _).setCell (p := ⟨w.heap.size + 1 + 1, 1, none⟩) (by simp; omega) _
    · have hne : (code != 0) = true := by simpa using h0
      have H0 := Lib.hid h0
      clear h0
      go_wp2_with fail
      refine bodyPost_ret (v := .tuple #[.agg #[.int .i64 0, .int .i64 0], .int .i64 code]) (by simp [results, Try.results50, go_sem, r0, r1]) rfl ⟨?_, ?_⟩
      · rw [HCODE.out, Pure.res2_err H0.out]
      · exact ((HB1.out.trans (HBC.out.mono (by have := HSZ.out; omega))).setCell (p := ⟨w.heap.size + 1 + 1, 0, none⟩) (by simp; omega) _).setCell (p := ⟨w.heap.size + 1 + 1, 1, none⟩) (by simp; omega) _

end Go.Proofs.Ytnldipniaphmgaa

namespace Go.Proofs.Ytnldipniaphmgaa
open Go.RowKit Go.Shelf

namespace Pure
/-- a / b is at most c / d. -/
def leP (a b c d : Int) : Bool := decide (a * d ≤ c * b)
theorem le_less {a b c d : Int} (hb : 0 < b) (hd : 0 < d) (h : a / b < c / d) : leP a b c d = true := by
  unfold leP
  rw [decide_eq_true_eq]
  have h1 := Int.lt_ediv_add_one_mul_self a hb
  have h2 := Int.ediv_mul_le c (show d ≠ 0 by omega)
  have h3 : (a / b + 1) * b ≤ c / d * b := Int.mul_le_mul_of_nonneg_right (by omega) (by omega)
  have h4 : a * d ≤ c / d * b * d := Int.mul_le_mul_of_nonneg_right (by omega) (by omega)
  have h5 : c / d * d * b ≤ c * b := Int.mul_le_mul_of_nonneg_right h2 (by omega)
  have h6 : c / d * b * d = c / d * d * b := by rw [Int.mul_assoc, Int.mul_comm b d, ← Int.mul_assoc]
  omega
theorem le_more {a b c d : Int} (hb : 0 < b) (hd : 0 < d) (h : c / d < a / b) : leP a b c d = false := by
  unfold leP
  rw [decide_eq_false_iff_not]
  have h1 := Int.lt_ediv_add_one_mul_self c hd
  have h2 := Int.ediv_mul_le a (show b ≠ 0 by omega)
  have h3 : (c / d + 1) * d ≤ a / b * d := Int.mul_le_mul_of_nonneg_right (by omega) (by omega)
  have h4 : c * b < a / b * d * b := Int.mul_lt_mul_of_pos_right (by omega) hb
  have h5 : a / b * b * d ≤ a * d := Int.mul_le_mul_of_nonneg_right h2 (by omega)
  have h6 : a / b * d * b = a / b * b * d := by rw [Int.mul_assoc, Int.mul_comm d b, ← Int.mul_assoc]
  omega
theorem le_rest {a b c d : Int} (h : a / b = c / d) : leP a b c d = decide (a % b * d ≤ c % d * b) := by
  unfold leP
  have h1 := Int.mul_ediv_add_emod a b
  have h2 := Int.mul_ediv_add_emod c d
  have e1 : a * d = b * (c / d) * d + a % b * d := by rw [← h, ← Int.add_mul, h1]
  have e2 : c * b = d * (c / d) * b + c % d * b := by rw [← Int.add_mul, h2]
  have e3 : b * (c / d) * d = d * (c / d) * b := by rw [Int.mul_comm b, Int.mul_assoc, Int.mul_comm b d, ← Int.mul_assoc, Int.mul_comm d (c / d)]
  rw [decide_eq_decide, e1, e2, e3]
  omega
theorem le_rest_zero {a b c d : Int} (hb : 0 < b) (hd : 0 < d) (h : a / b = c / d) (hx : a % b = 0) : leP a b c d = true := by
  rw [le_rest h, hx, decide_eq_true_eq]
  have := Int.mul_nonneg (Int.emod_nonneg c (show d ≠ 0 by omega)) (show 0 ≤ b by omega)
  omega
theorem le_rest_no {a b c d : Int} (hb : 0 < b) (hd : 0 < d) (h : a / b = c / d) (hx : a % b ≠ 0) (hy : c % d = 0) : leP a b c d = false := by
  rw [le_rest h, hy, decide_eq_false_iff_not]
  have h1 := Int.emod_nonneg a (show b ≠ 0 by omega)
  have h2 : 0 < a % b * d := Int.mul_pos (by omega) hd
  omega
theorem le_rest_more {a b c d : Int} (h : a / b = c / d) : leP d (c % d) b (a % b) = leP a b c d := by
  rw [le_rest h]
  unfold leP
  rw [Int.mul_comm d, Int.mul_comm b]
end Pure

theorem below_draws' {W w : World} (h : Below W.heap.size W w) (n m : Nat) : Below W.heap.size W ((w.drewN n).drewN m) := ⟨h.os, h.tape, h.output, h.size, h.block⟩
/-- The Den of a fraction in a box. -/
def denN (w : World) (B : Nat) : Nat := match w.heap[B]? with
  | Option.some (Obj.cells arr _ _) => (match arr[1]? with
    | Option.some (Value.int _ n) => n.toNat
    | _ => 0)
  | _ => 0
theorem denN_of {w : World} {B : Nat} {a b : Int} {t : TypeId} (h : w.heap[B]? = some (.cells #[.int .i64 a, .int .i64 b] t)) : denN w B = b.toNat := by
  unfold denN
  rw [h]
  rfl

set_option maxHeartbeats 8000000 in
set_option maxRecDepth 100000 in
/-- **atMost**, of the statements. -/
theorem atMost_law (a b c d : Int) (a0 : 0 ≤ a) (a1 : a ≤ 9223372036854775807) (b0 : 0 < b) (b1 : b ≤ 9223372036854775807) (c0 : 0 ≤ c) (c1 : c ≤ 9223372036854775807) (d0 : 0 < d) (d1 : d ≤ 9223372036854775807) (w : World) :
    Calls Try.prog 45 #[.agg #[.int .i64 a, .int .i64 b], .agg #[.int .i64 c, .int .i64 d]] w fun e w' => e = .returned (.bool (Pure.leP a b c d)) ∧ Below w.heap.size w w' := by
  have hp : (w.alloc (.cells #[.int .i64 a, .int .i64 b] 31)).heap[w.heap.size]? = some (.cells #[.int .i64 a, .int .i64 b] 31) := heap_top w _ rfl
  have hp2 := heap_up hp (.cells #[.int .i64 c, .int .i64 d] 31)
  have hq2 : ((w.alloc (.cells #[.int .i64 a, .int .i64 b] 31)).alloc (.cells #[.int .i64 c, .int .i64 d] 31)).heap[w.heap.size + 1]? = some (.cells #[.int .i64 c, .int .i64 d] 31) := heap_top _ _ (by simp)
  have HP := Lib.hid hp2
  have HQ := Lib.hid hq2
  clear hp hp2 hq2
  go_enter Try.func45, Try.ntmps45
  go_wp2_with fail
  go_loopw [5, 6] (fun _ _ wr => ∃ n1 e1 n2 e2 : Int, (0 ≤ n1 ∧ n1 ≤ 9223372036854775807 ∧ 0 < e1 ∧ e1 ≤ 9223372036854775807 ∧ 0 ≤ n2 ∧ n2 ≤ 9223372036854775807 ∧ 0 < e2 ∧ e2 ≤ 9223372036854775807) ∧ Pure.leP n1 e1 n2 e2 = Pure.leP a b c d ∧
      wr.heap[w.heap.size]? = some (.cells #[.int .i64 n1, .int .i64 e1] 31) ∧ wr.heap[w.heap.size + 1]? = some (.cells #[.int .i64 n2, .int .i64 e2] 31) ∧ Below w.heap.size w wr) (fun _ _ wr => denN wr w.heap.size + denN wr (w.heap.size + 1))
  case atStart => exact ⟨a, b, c, d, ⟨a0, a1, b0, b1, c0, c1, d0, d1⟩, rfl, HP.out, HQ.out, ((Below.refl _ _).alloc (Nat.le_refl _) _).alloc (by simp) _⟩
  case round =>
    obtain ⟨n1, e1, n2, e2, ⟨g1, g2, g3, g4, g5, g6, g7, g8⟩, hle, hbp, hbq, hbr⟩ := hrel
    have p0 := heap_cell hbp (j := 0) rfl
    have p1 := heap_cell hbp (j := 1) rfl
    have q0 := heap_cell hbq (j := 0) rfl
    have q1 := heap_cell hbq (j := 1) rfl
    have DP := Lib.hid (denN_of hbp)
    have DQ := Lib.hid (denN_of hbq)
    have HLE := Lib.hid hle
    have HBP := Lib.hid hbp
    have HBQ := Lib.hid hbq
    have HBR := Lib.hid hbr
    clear hle hbp hbq hbr HP HQ a0 a1 b0 b1 c0 c1 d0 d1
    have x0 : 0 ≤ n1 % e1 := Int.emod_nonneg _ (by omega)
    have x1 : n1 % e1 < e1 := Int.emod_lt_of_pos _ g3
    have y0 : 0 ≤ n2 % e2 := Int.emod_nonneg _ (by omega)
    have y1 : n2 % e2 < e2 := Int.emod_lt_of_pos _ g7
    have k1 : ¬ e1 = 0 := by omega
    have k2 : ¬ e2 = 0 := by omega
    by_cases hq : n1 / e1 = n2 / e2
    · have HEQ := Lib.hid hq
      have t1 : (n1 / e1 == n2 / e2) = true := by simp [hq]
      clear hq
      go_wp2_with fail
      go_quiet (fail)
      go_wp2_with fail
      go_cut [5, 6] from 7 to 43 (fun s5 s6 wx => s5 = .int .i64 (n1 % e1) ∧ s6 = .int .i64 (n2 % e2) ∧ Below wr.heap.size wr wx)
      case first =>
        as_aux_lemma =>
          go_quiet (fail)
          go_wp2_with fail
          go_meet
          exact ⟨rfl, rfl, below_draws' (Below.refl _ _) _ _⟩
      case rest =>
        obtain ⟨V, rfl⟩ : ∃ x, x = wc := ⟨_, rfl⟩
        obtain ⟨rfl, rfl, hbc⟩ := hcut
        replace HBP := Lib.hid (heap_lift HBP.out hbc)
        replace HBQ := Lib.hid (heap_lift HBQ.out hbc)
        have HMP : Hid (denN wr w.heap.size + denN wr (w.heap.size + 1) = e1.toNat + e2.toNat) := Lib.hid (by rw [DP.out, DQ.out])
        replace HBR := Lib.hid (below_then HBR.out hbc)
        clear hbc p0 p1 q0 q1 DP DQ
        have p1 := heap_cell HBP.out (j := 1) rfl
        have q1 := heap_cell HBQ.out (j := 1) rfl
        obtain ⟨x, hx⟩ : ∃ x, n1 % e1 = x := ⟨_, rfl⟩
        obtain ⟨y, hy⟩ : ∃ y, n2 % e2 = y := ⟨_, rfl⟩
        rw [hx] at x0 x1
        rw [hy] at y0 y1
        have HX := Lib.hid hx
        have HY := Lib.hid hy
        rw [hx, hy]
        clear hx hy
        rcases Int.lt_or_eq_of_le x0 with h0 | h0
        · have t2 : (x == 0) = false := by simp; omega
          rcases Int.lt_or_eq_of_le y0 with h1 | h1
          · have t3 : (y == 0) = false := by simp; omega
            go_wp2_with fail
            have z1 := among_below p1
            have z3 := among_below q1
            have HC : Hid (∀ (z : Among (Below V.heap.size V)) (o f : Int), Calls Try.prog 43 #[.int .i64 o, .int .i64 f] z.val fun e w' => e = .returned (.agg #[.int .i64 o, .int .i64 f]) ∧ ∃ u : Among (Below V.heap.size V), w' = u.val) :=
              Lib.hid (fun z o f => calls_class ((newPart_any o f z.val).mono fun e w' h => ⟨h.1, below_then z.ok h.2⟩))
            have hne : Nonempty (Among (Below V.heap.size V)) := ⟨⟨V, Below.refl _ _⟩⟩
            refine wp_region_tail 8 (Below V.heap.size V) (by kernel_rfl) (by kernel_rfl) (Below.refl _ _).drew ?_
            simp only [List.take_succ_cons, List.take_zero, List.drop_succ_cons, List.drop_zero]
            repeat (go_big_quiet_step ((go_at_call 43; with_reducible exact HC.out _ _ _)))
            refine wpQuiet_nil ?_
            intro w3 hw3
            have hB3 := among_out hw3
            replace HBP := Lib.hid (heap_lift HBP.out hB3)
            replace HBQ := Lib.hid (heap_lift HBQ.out hB3)
            replace HBR := Lib.hid (below_then HBR.out hB3)
            clear hw3 hB3 hne z1 z3 p1 q1 HC
            have r0 := heap_cell HBP.out (j := 0) rfl
            have r1 := heap_cell HBP.out (j := 1) rfl
            have r2 := heap_cell HBQ.out (j := 0) rfl
            have r3 := heap_cell HBQ.out (j := 1) rfl
            have f0 := heap_frozen HBP.out 0
            have f1 := heap_frozen HBP.out 1
            have f2 := heap_frozen HBQ.out 0
            have f3 := heap_frozen HBQ.out 1
            go_wp2_with fail
            have hP := heap_far2 (show w.heap.size + 1 ≠ w.heap.size by omega) (heap_two HBP.out (.int .i64 e2) (.int .i64 y)) (.int .i64 e1) (.int .i64 x)
            have hQ := heap_two (heap_far2 (show w.heap.size ≠ w.heap.size + 1 by omega) HBQ.out (.int .i64 e2) (.int .i64 y)) (.int .i64 e1) (.int .i64 x)
            go_roundw
            case rel => exact ⟨e2, y, e1, x, ⟨by omega, g8, h1, by omega, by omega, g4, h0, by omega⟩, by rw [← HX.out, ← HY.out, Pure.le_rest_more HEQ.out]; exact HLE.out, hP, hQ, below_set2 (below_set2 HBR.out (Nat.le_refl _) _ _) (by omega) _ _⟩
            case measure => (rw [denN_of hP, denN_of hQ, HMP.out]; omega)
          · have hy0 : y = 0 := h1.symm
            subst hy0
            go_wp2_with fail
            go_ret
            refine ⟨?_, HBR.out⟩
            rw [← HLE.out, Pure.le_rest_no g3 g7 HEQ.out (by rw [HX.out]; omega) HY.out]
            rfl
        · have hx0 : x = 0 := h0.symm
          subst hx0
          go_wp2_with fail
          go_ret
          refine ⟨?_, HBR.out⟩
          rw [← HLE.out, Pure.le_rest_zero g3 g7 HEQ.out HX.out]
          rfl
    · have HEQ := Lib.hid hq
      have t1 : (n1 / e1 == n2 / e2) = false := by simp [hq]
      clear hq
      go_wp2_with fail
      go_quiet (fail)
      go_wp2_with fail
      go_quiet (fail)
      go_wp2_with fail
      go_ret
      refine ⟨?_, below_draws' HBR.out _ _⟩
      rw [← HLE.out]
      rcases Int.lt_or_gt_of_ne HEQ.out with h | h
      · rw [Pure.le_less g3 g7 h]
        exact ret_bool (decide_eq_true h)
      · rw [Pure.le_more g3 g7 h]
        exact ret_bool (decide_eq_false (by omega))

end Go.Proofs.Ytnldipniaphmgaa

namespace Go.Proofs.Ytnldipniaphmgaa
namespace Pure

theorem okTerms_all {len : Nat} {F P : Nat → Int} (h : okTerms len F P = true) : len ≤ 5 ∧ ∀ j, j < len → fits F P j := by unfold okTerms at h; simpa using h
theorem offTo_le_next {len : Nat} {F P : Nat → Int} (h : ∀ j, j < len → fits F P j) (o f : Int) : ∀ k : Nat, k < len → offTo F P o f k ≤ P k
  | 0, hk => by
    have := h 0 hk
    unfold fits at this
    show (0 : Int) ≤ P 0
    omega
  | k + 1, hk => by
    have h1 := offTo_le_next h o f k (by omega)
    have h2 := h (k + 1) hk
    unfold fits at h2
    have h3 := h2.2.2.2.2 (by omega)
    rw [show k + 1 - 1 = k by omega] at h3
    by_cases hy : F k * o ≤ f * 100
    · rw [offTo_yes hy]; omega
    · rw [offTo_no hy]; omega
theorem offTo_mono {len : Nat} {F P : Nat → Int} (h : ∀ j, j < len → fits F P j) {o f g : Int} (hfg : f ≤ g) : ∀ k : Nat, k ≤ len → offTo F P o f k ≤ offTo F P o g k
  | 0, _ => Int.le_refl _
  | k + 1, hk => by
    by_cases hy : F k * o ≤ f * 100
    · rw [offTo_yes hy, offTo_yes (show F k * o ≤ g * 100 by omega)]
      exact Int.le_refl _
    · rw [offTo_no hy]
      by_cases hz : F k * o ≤ g * 100
      · rw [offTo_yes hz]
        exact offTo_le_next h o f k (by omega)
      · rw [offTo_no hz]
        exact offTo_mono h hfg k (by omega)
/-- **What is taken off never falls with a dirty bag more.** -/
theorem off_mono {len : Nat} {F P : Nat → Int} (h : okTerms len F P = true) {o f g : Int} (hf : 0 ≤ f) (hfg : f ≤ g) : off len F P o f ≤ off len F P o g := by
  have h2 := (okTerms_all h).2
  have h3 := off_span h o g
  unfold off at h3 ⊢
  by_cases hz : o = 0 ∧ f = 0
  · rw [if_pos hz]; exact h3.1
  · rw [if_neg hz, if_neg (show ¬ (o = 0 ∧ g = 0) by omega)]
    exact offTo_mono h2 hfg len (Nat.le_refl _)

theorem sumTo_const (b d o c : Int) : ∀ k : Nat, sumTo b d o (fun _ => c) k = fewTo b d o k * c
  | 0 => by show (0 : Int) = 0 * c; simp
  | k + 1 => by rw [sumTo_succ, fewTo_succ, sumTo_const b d o c k, Int.add_mul]
theorem sumTo_both {b d o : Int} {f g : Int → Int} {n : Nat} (h : ∀ j : Nat, j < n → ways b d o j * f j ≤ ways b d o j * g j) : ∀ k : Nat, k ≤ n → sumTo b d o f k ≤ sumTo b d o g k
  | 0, _ => Int.le_refl _
  | k + 1, hk => by
    rw [sumTo_succ, sumTo_succ]
    have h1 := sumTo_both h k (by omega)
    have h2 := h k (by omega)
    omega
theorem ways_few {b d o : Int} {j : Nat} (h : (j : Int) < o - (b - d)) : ways b d o j = 0 := by
  unfold ways
  rw [sets_none (n := b - d) (k := o - j) (.inr (by omega))]
  omega
theorem ways_many {b d o : Int} {j : Nat} (h : d < (j : Int)) : ways b d o j = 0 := by
  unfold ways
  rw [sets_none (n := d) (k := j) (.inr h)]
  omega
theorem fair_lo {b d o m : Int} {len : Nat} {F P : Nat → Int} (h : okTerms len F P = true) (hd0 : 0 ≤ d) (hd : d ≤ b) (ho0 : 0 ≤ o) (m0 : 0 ≤ m) (hm : ∀ j : Nat, o - (b - d) ≤ (j : Int) → m ≤ j) : off len F P o m * sets b o ≤ fair b d o len F P := by
  rw [← fewTo_all hd0 hd ho0, Int.mul_comm, ← sumTo_const]
  unfold fair sum
  refine sumTo_both (n := (o + 1).toNat) (fun j _ => ?_) _ (Nat.le_refl _)
  by_cases c : o - (b - d) ≤ (j : Int)
  · exact Int.mul_le_mul_of_nonneg_left (off_mono h m0 (hm j c)) (ways_nonneg b d o j)
  · rw [ways_few (by omega)]; omega
theorem fair_hi {b d o m : Int} {len : Nat} {F P : Nat → Int} (h : okTerms len F P = true) (hd0 : 0 ≤ d) (hd : d ≤ b) (ho0 : 0 ≤ o) (hm : ∀ j : Nat, (j : Int) ≤ o → (j : Int) ≤ d → (j : Int) ≤ m) : fair b d o len F P ≤ off len F P o m * sets b o := by
  rw [← fewTo_all hd0 hd ho0, Int.mul_comm, ← sumTo_const]
  unfold fair sum
  refine sumTo_both (n := (o + 1).toNat) (fun j hj => ?_) _ (Nat.le_refl _)
  by_cases c : (j : Int) ≤ d
  · exact Int.mul_le_mul_of_nonneg_left (off_mono h (by omega) (hm j (by omega) c)) (ways_nonneg b d o j)
  · rw [ways_many (by omega)]; omega
theorem first4_ok {a b c d : Bool} {w x y z : Int} (ha : a = true) (hb : b = true) (hc : c = true) (hd : d = true) : first4 (err a w) (err b x) (err c y) (err d z) = 0 := by
  rw [ha, hb, hc, hd]
  rfl
/-- The least, the greatest and the last that were taken off, behind k rounds. -/
def leastTo (v : Int → Int) (lo : Int) (k : Nat) : Int := if (k : Int) ≤ lo then -1 else v lo
def mostTo (v : Int → Int) (lo hi : Int) (k : Nat) : Int := if (k : Int) ≤ lo then 0 else v (min ((k : Int) - 1) hi)
def lastTo (v : Int → Int) (k : Nat) : Int := if k = 0 then 0 else v ((k : Int) - 1)
theorem lastTo_succ (v : Int → Int) (k : Nat) : lastTo v (k + 1) = v k := by
  unfold lastTo
  rw [if_neg (by omega)]
  congr 1
  omega
theorem leastTo_no {v : Int → Int} {lo : Int} {k : Nat} (h : (k : Int) ≤ lo) : leastTo v lo k = -1 := if_pos h
theorem leastTo_yes {v : Int → Int} {lo : Int} {k : Nat} (h : ¬ (k : Int) ≤ lo) : leastTo v lo k = v lo := if_neg h
theorem mostTo_no {v : Int → Int} {lo hi : Int} {k : Nat} (h : (k : Int) ≤ lo) : mostTo v lo hi k = 0 := if_pos h
theorem mostTo_in {v : Int → Int} {lo hi : Int} {k : Nat} (h : lo ≤ (k : Int)) (h2 : (k : Int) ≤ hi) : mostTo v lo hi (k + 1) = v k := by
  unfold mostTo
  rw [if_neg (by omega)]
  congr 1
  omega
theorem mostTo_out {v : Int → Int} {lo hi : Int} {k : Nat} (hlh : lo ≤ hi) (h2 : hi < (k : Int)) : mostTo v lo hi (k + 1) = mostTo v lo hi k := by
  unfold mostTo
  rw [if_neg (by omega), if_neg (by omega)]
  congr 1
  omega
end Pure
end Go.Proofs.Ytnldipniaphmgaa

namespace Go.Proofs.Ytnldipniaphmgaa
open Go.RowKit Go.Shelf

theorem fairV {b lo hi d n pn pd : Int} {a : Option Addr} {len cap : Nat} {F P : Nat → Int} (hc : Pure.okCargo b lo hi = true) (hok : Pure.okTerms len F P = true) (d0 : lo ≤ d) (d1 : d ≤ hi) (n0 : 0 ≤ n) (n1 : n ≤ b) (hl : len ≤ 9223372036854775807) (h : Hid (partV (Pure.fair b d n len F P) (Pure.sets b n) = .agg #[.int .i64 pn, .int .i64 pd])) (w : World) (ht : TermsAt w a len F P) :
    Calls Try.prog 50 #[cargoV b lo hi, .int .i64 d, .int .i64 n, .slice a len cap] w fun e w' => e = .returned (.tuple #[.agg #[.int .i64 pn, .int .i64 pd], .int .i64 0]) ∧ Below w.heap.size w w' :=
  (fair_any b lo hi d n a len cap F P hl w ht).mono fun _ _ g => ⟨g.1.trans (by
    have h2 : Pure.okIn 0 b n = true := by unfold Pure.okIn; rw [decide_eq_true_eq]; omega
    have h3 : Pure.okIn lo hi d = true := by unfold Pure.okIn; rw [decide_eq_true_eq]; omega
    rw [Pure.res2_zero (Pure.first4_ok hc h3 hok h2), h.out]), g.2⟩
theorem offV {n k m : Int} {a : Option Addr} {len cap : Nat} {F P : Nat → Int} (hok : Pure.okTerms len F P = true) (n0 : 0 ≤ n) (n1 : n ≤ 36) (k0 : 0 ≤ k) (k1 : k ≤ n) (hl : len ≤ 9223372036854775807) (h : Hid (Pure.off len F P n k = m)) (w : World) (ht : TermsAt w a len F P) :
    Calls Try.prog 51 #[.slice a len cap, .agg #[.int .i64 n, .int .i64 k]] w fun e w' => e = .returned (.tuple #[.int .i64 m, .int .i64 0]) ∧ Below w.heap.size w w' :=
  (offTop_any a len cap F P n k hl w ht).mono fun _ _ g => ⟨g.1.trans (by
    have h2 : Pure.okDraw 36 n k = true := by unfold Pure.okDraw; rw [decide_eq_true_eq]; omega
    rw [hok, h2, h.out]
    rfl), g.2⟩
theorem atMostYes {a b c d : Int} (h : Hid (Pure.leP a b c d = true)) (a0 : 0 ≤ a) (a1 : a ≤ 9223372036854775807) (b0 : 0 < b) (b1 : b ≤ 9223372036854775807) (c0 : 0 ≤ c) (c1 : c ≤ 9223372036854775807) (d0 : 0 < d) (d1 : d ≤ 9223372036854775807) (w : World) :
    Calls Try.prog 45 #[.agg #[.int .i64 a, .int .i64 b], .agg #[.int .i64 c, .int .i64 d]] w fun e w' => e = .returned (.bool true) ∧ Below w.heap.size w w' :=
  (atMost_law a b c d a0 a1 b0 b1 c0 c1 d0 d1 w).mono fun _ _ g => ⟨g.1.trans (by rw [h.out]), g.2⟩

set_option maxHeartbeats 4000000 in
set_option maxRecDepth 100000 in
/-- A cargo that is not valid. -/
theorem fair_bad (b lo hi x y : Int) (a : Option Addr) (len cap : Nat) (hc : Hid (Pure.okCargo b lo hi = false)) (w : World) :
    Calls Try.prog 14 #[cargoV b lo hi, .slice a len cap, .int .u8 x, .int .u8 y] w fun e w' => e = .returned (.bool true) ∧ Below w.heap.size w w' := by
  go_enter Try.func14, Try.ntmps14
  go_wp2_with fail
  refine (alive_any _).mono ?_
  rintro e w1 ⟨rfl, hb1⟩
  have hcc := heap_lift (heap_top w (.cells #[.int .i64 b, .int .i64 lo, .int .i64 hi] 25) rfl) hb1
  have HC := Lib.hid hcc
  have c0 := heap_cell hcc (j := 0) rfl
  have c1 := heap_cell hcc (j := 1) rfl
  have c2 := heap_cell hcc (j := 2) rfl
  have HB := Lib.hid (below_then ((Below.refl _ _).alloc (Nat.le_refl _) _) hb1)
  obtain ⟨Bc, hBc⟩ : ∃ Bc, w.heap.size = Bc := ⟨_, rfl⟩
  rw [hBc] at HC c0 c1 c2
  clear hcc hb1
  go_wp2_with fail
  clear hBc
  refine (rCargo_any b lo hi _).mono ?_
  rw [hc.out]
  rintro e w2 ⟨rfl, rfl⟩
  obtain ⟨w2, hw2⟩ : ∃ w2, w1.alloc (.cells #[.int .i64 b, .int .i64 lo, .int .i64 hi] 25) = w2 := ⟨_, rfl⟩
  replace HC := Lib.hid (heap_up HC.out (.cells #[.int .i64 b, .int .i64 lo, .int .i64 hi] 25))
  replace HB := Lib.hid (HB.out.alloc HB.out.size (.cells #[.int .i64 b, .int .i64 lo, .int .i64 hi] 25))
  rw [hw2] at HC HB
  rw [hw2]
  clear c0 c1 c2 hw2 HC
  go_wp2_with fail
  go_ret
  exact ⟨rfl, HB.out⟩

set_option maxHeartbeats 4000000 in
set_option maxRecDepth 100000 in
/-- Terms that are not valid. -/
theorem fair_off (b lo hi x y : Int) (a : Option Addr) (len cap : Nat) (F P : Nat → Int) (hc : Hid (Pure.okCargo b lo hi = true)) (hok : Hid (Pure.okTerms len F P = false)) (hl : len ≤ 9223372036854775807) (w : World) (ht : Hid (TermsAt w a len F P)) :
    Calls Try.prog 14 #[cargoV b lo hi, .slice a len cap, .int .u8 x, .int .u8 y] w fun e w' => e = .returned (.bool true) ∧ Below w.heap.size w w' := by
  go_enter Try.func14, Try.ntmps14
  go_wp2_with fail
  refine (alive_any _).mono ?_
  rintro e w1 ⟨rfl, hb1⟩
  have hcc := heap_lift (heap_top w (.cells #[.int .i64 b, .int .i64 lo, .int .i64 hi] 25) rfl) hb1
  have HC := Lib.hid hcc
  have c0 := heap_cell hcc (j := 0) rfl
  have c1 := heap_cell hcc (j := 1) rfl
  have c2 := heap_cell hcc (j := 2) rfl
  have HB := Lib.hid (below_then ((Below.refl _ _).alloc (Nat.le_refl _) _) hb1)
  obtain ⟨Bc, hBc⟩ : ∃ Bc, w.heap.size = Bc := ⟨_, rfl⟩
  rw [hBc] at HC c0 c1 c2
  clear hcc hb1
  go_wp2_with fail
  clear hBc
  refine (rCargo_any b lo hi _).mono ?_
  rw [hc.out]
  rintro e w2 ⟨rfl, rfl⟩
  obtain ⟨w2, hw2⟩ : ∃ w2, w1.alloc (.cells #[.int .i64 b, .int .i64 lo, .int .i64 hi] 25) = w2 := ⟨_, rfl⟩
  replace HC := Lib.hid (heap_up HC.out (.cells #[.int .i64 b, .int .i64 lo, .int .i64 hi] 25))
  replace HB := Lib.hid (HB.out.alloc HB.out.size (.cells #[.int .i64 b, .int .i64 lo, .int .i64 hi] 25))
  rw [hw2] at HC HB
  rw [hw2]
  clear c0 c1 c2 hw2
  go_wp2_with fail
  refine (rTerms_any a len cap F P hl _ (ht.out.below HB.out)).mono ?_
  rw [hok.out]
  rintro e w3 ⟨rfl, hb3⟩
  replace HC := Lib.hid (heap_lift HC.out hb3)
  replace HB := Lib.hid (HB.out.trans (hb3.mono HB.out.size))
  clear hb3
  go_wp2_with fail
  go_ret
  exact ⟨rfl, HB.out⟩

set_option maxHeartbeats 8000000 in
set_option maxRecDepth 100000 in
theorem fair_good (b lo hi x y d fn fd kl kh : Int) (n : Nat) (v : Int → Int) (a : Option Addr) (len cap : Nat) (F P : Nat → Int) (hc : Hid (Pure.okCargo b lo hi = true)) (hok : Hid (Pure.okTerms len F P = true)) (hl : len ≤ 9223372036854775807) (b1 : 1 ≤ b) (b2 : b ≤ 36) (l0 : 0 ≤ lo) (l1 : lo ≤ hi) (h36 : hi ≤ 36) (hbb : hi ≤ b) (x0 : 0 ≤ x) (x1 : x ≤ 255) (y0 : 0 ≤ y) (y1 : y ≤ 255)
    (hd : Hid (lo + x % (hi - lo + 1) = d)) (hn : Hid (y % (b + 1) = (n : Int))) (d0 : lo ≤ d) (d1 : d ≤ hi) (n0 : 0 ≤ (n : Int)) (n1 : (n : Int) ≤ b)
    (hfv : Hid (partV (Pure.fair b d n len F P) (Pure.sets b n) = .agg #[.int .i64 fn, .int .i64 fd])) (fn0 : 0 ≤ fn) (fn1 : fn ≤ 9223372036854775807) (fd0 : 0 < fd) (fd1 : fd ≤ 9223372036854775807)
    (hvd : Hid (∀ j : Int, v j = Pure.off len F P n j)) (hv0 : Hid (∀ j : Int, 0 ≤ v j ∧ v j ≤ 1000000)) (hvm : Hid (∀ j k : Int, 0 ≤ j → j ≤ k → v j ≤ v k))
    (kl0 : 0 ≤ kl) (kl1 : (n : Int) - (b - d) ≤ kl) (kl2 : kl = 0 ∨ kl = (n : Int) - (b - d)) (kh0 : kh ≤ d) (kh1 : kh ≤ n) (kh2 : kh = d ∨ kh = n) (klh : kl ≤ kh) (hle1 : Hid (Pure.leP (v kl) 1 fn fd = true)) (hle2 : Hid (Pure.leP fn fd (v kh) 1 = true)) (w : World) (ht : Hid (TermsAt w a len F P)) :
    Calls Try.prog 14 #[cargoV b lo hi, .slice a len cap, .int .u8 x, .int .u8 y] w fun e w' => e = .returned (.bool true) ∧ Below w.heap.size w w' := by
  go_enter Try.func14, Try.ntmps14
  go_wp2_with fail
  refine (alive_any _).mono ?_
  rintro e w1 ⟨rfl, hb1⟩
  have hcc := heap_lift (heap_top w (.cells #[.int .i64 b, .int .i64 lo, .int .i64 hi] 25) rfl) hb1
  have HC := Lib.hid hcc
  have c0 := heap_cell hcc (j := 0) rfl
  have c1 := heap_cell hcc (j := 1) rfl
  have c2 := heap_cell hcc (j := 2) rfl
  have HB := Lib.hid (below_then ((Below.refl _ _).alloc (Nat.le_refl _) _) hb1)
  obtain ⟨Bc, hBc⟩ : ∃ Bc, w.heap.size = Bc := ⟨_, rfl⟩
  rw [hBc] at HC c0 c1 c2
  clear hcc hb1
  go_wp2_with fail
  clear hBc
  refine (rCargo_any b lo hi _).mono ?_
  rw [hc.out]
  rintro e w2 ⟨rfl, rfl⟩
  obtain ⟨w2, hw2⟩ : ∃ w2, w1.alloc (.cells #[.int .i64 b, .int .i64 lo, .int .i64 hi] 25) = w2 := ⟨_, rfl⟩
  replace HC := Lib.hid (heap_up HC.out (.cells #[.int .i64 b, .int .i64 lo, .int .i64 hi] 25))
  replace HB := Lib.hid (HB.out.alloc HB.out.size (.cells #[.int .i64 b, .int .i64 lo, .int .i64 hi] 25))
  rw [hw2] at HC HB
  rw [hw2]
  clear c0 c1 c2 hw2
  go_wp2_with fail
  refine (rTerms_any a len cap F P hl _ (ht.out.below HB.out)).mono ?_
  rw [hok.out]
  rintro e w3 ⟨rfl, hb3⟩
  replace HC := Lib.hid (heap_lift HC.out hb3)
  replace HB := Lib.hid (HB.out.trans (hb3.mono HB.out.size))
  clear hb3
  go_wp2_with fail
  have HK : Hid (∀ v : World, Below w3.heap.size w3 v → (v.cell? ⟨Bc, 0, none⟩ = some (.int .i64 b) ∧ v.cell? ⟨Bc, 1, none⟩ = some (.int .i64 lo) ∧ v.cell? ⟨Bc, 2, none⟩ = some (.int .i64 hi) ∧ Below w3.heap.size w3 v)) :=
    Lib.hid (fun v k => ⟨below_cell k (heap_cell HC.out (j := 0) rfl), below_cell k (heap_cell HC.out (j := 1) rfl), below_cell k (heap_cell HC.out (j := 2) rfl), k⟩)
  have t1 : IntKind.i64.wrap (b + 1) = b + 1 := IntWalk.i64_in _ (by omega)
  have t2 : Int.tmod y (b + 1) = n := by rw [Int.tmod_eq_emod_of_nonneg y0]; exact hn.out
  have t3 : (b + 1 == 0) = false := by simp; omega
  have t4 : (0 : Int) < b + 1 := by omega
  have t5 : ¬ (b + 1 = 0) := by omega
  have t6 : IntKind.i64.wrap y = y := IntWalk.i64_in _ (by omega)
  go_cut [10, 11] (fun s10 s11 wx => s10 = .int .i64 d ∧ s11 = .int .i64 n ∧ Below w3.heap.size w3 wx)
  case first =>
    as_aux_lemma =>
      go_region_held3 (fun v => v.cell? ⟨Bc, 0, none⟩ = some (.int .i64 b) ∧ v.cell? ⟨Bc, 1, none⟩ = some (.int .i64 lo) ∧ v.cell? ⟨Bc, 2, none⟩ = some (.int .i64 hi) ∧ Below w3.heap.size w3 v)
        (first | exact HK.out _ (Below.refl _ _).drew | exact HK.out _ ((Below.refl _ _).alloc (Nat.le_refl _) _).drew | exact HK.out _ hqu0 | exact HK.out _ (Below.alloc hqu0 (Below.size hqu0) _))
        (first
          | (go_at_call 33; refine (some_any b lo hi x l0 l1 h36 x0 x1 hd _).mono ?_; rintro e u0 ⟨rfl, hbu0⟩; have hqu0 : Below w3.heap.size w3 u0 := below_then (And.right (And.right (And.right (by assumption)))) hbu0))
      all_goals
        go_wp2_with fail
        go_meet
        exact ⟨rfl, by first | rfl | rw [hn.out], hqu0⟩
  case rest =>
    obtain ⟨w4, rfl⟩ : ∃ x, x = wc := ⟨_, rfl⟩
    obtain ⟨rfl, rfl, hb3⟩ := hcut
    replace HC := Lib.hid (heap_lift HC.out hb3)
    replace HB := Lib.hid (HB.out.trans (hb3.mono HB.out.size))
    clear hb3 HK t1 t2 t3 t4 t5 t6
    have c0 := heap_cell HC.out (j := 0) rfl
    have c1 := heap_cell HC.out (j := 1) rfl
    have c2 := heap_cell HC.out (j := 2) rfl
    go_wp2_with fail
    refine (fairV hc.out hok.out d0 d1 n0 n1 hl hfv _ (ht.out.below HB.out)).mono ?_
    rintro e v1 ⟨rfl, hb1⟩
    have hb2 := hb1.alloc hb1.size (.cells #[.int .i64 fn, .int .i64 fd] 31)
    replace HC := Lib.hid (heap_lift HC.out hb2)
    replace HB := Lib.hid (HB.out.trans (hb2.mono HB.out.size))
    have hx := heap_top v1 (.cells #[.int .i64 fn, .int .i64 fd] 31) rfl
    obtain ⟨Bf, hBf⟩ : ∃ Bf, v1.heap.size = Bf := ⟨_, rfl⟩
    obtain ⟨v2, hv2⟩ : ∃ v2, v1.alloc (.cells #[.int .i64 fn, .int .i64 fd] 31) = v2 := ⟨_, rfl⟩
    rw [hBf] at hx
    rw [hv2] at HC HB hx
    have HX := Lib.hid hx
    have x0' := heap_cell hx (j := 0) rfl
    have x1' := heap_cell hx (j := 1) rfl
    clear hb1 hb2 hx c0 c1 c2
    go_wp2_with fail
    clear hBf hv2 x0' x1'
    go_loopw [14, 15, 16, 65] (fun l g t i wr => ∃ k : Nat, k ≤ n + 1 ∧ i = .int .i64 k ∧ l = .int .i64 (Pure.leastTo v kl k) ∧ g = .int .i64 (Pure.mostTo v kl kh k) ∧ t = .int .i64 (Pure.lastTo v k) ∧ Below v2.heap.size v2 wr) (fun _ _ _ i _ => n + 1 - (intOf i).toNat)
    case atStart => exact ⟨0, by omega, rfl, by rw [Pure.leastTo_no (by omega)], by rw [Pure.mostTo_no (by omega)], rfl, Below.refl _ _⟩
    case round =>
      obtain ⟨k, hk, rfl, hl', hg', ht', hbr⟩ := hrel
      obtain ⟨l, hl2⟩ : ∃ l, Pure.leastTo v kl k = l := ⟨_, rfl⟩
      obtain ⟨g, hg2⟩ : ∃ g, Pure.mostTo v kl kh k = g := ⟨_, rfl⟩
      obtain ⟨t, ht2⟩ : ∃ t, Pure.lastTo v k = t := ⟨_, rfl⟩
      rw [hl2] at hl'
      rw [hg2] at hg'
      rw [ht2] at ht'
      subst hl' hg' ht'
      have HL2 := Lib.hid hl2
      have HG2 := Lib.hid hg2
      have HBR := Lib.hid hbr
      replace HC := Lib.hid (heap_lift HC.out hbr)
      replace HX := Lib.hid (heap_lift HX.out hbr)
      have HB9 := Lib.hid (HB.out.trans (hbr.mono HB.out.size))
      by_cases hk1 : k < n + 1
      · obtain ⟨m, hm⟩ : ∃ m, v k = m := ⟨_, rfl⟩
        have HM : Hid (Pure.off len F P n k = m) := Lib.hid (by rw [← hvd.out, hm])
        have HT1 : Hid (Pure.lastTo v (k + 1) = m) := Lib.hid (by rw [Pure.lastTo_succ, hm])
        have m0 : 0 ≤ m := by rw [← hm]; exact (hv0.out k).1
        have m1 : m ≤ 1000000 := by rw [← hm]; exact (hv0.out k).2
        have tm : t ≤ m := by
          rw [← ht2, ← hm]
          unfold Pure.lastTo
          split
          · rw [hm]; exact m0
          · exact hvm.out _ _ (by omega) (by omega)
        have HMK := Lib.hid hm
        clear hl2 hg2 ht2 hm hbr
        go_wp2_with fail
        refine (drawn_any _ _ _).mono ?_
        rintro e u1 ⟨rfl, hb1⟩
        replace HC := Lib.hid (heap_lift HC.out hb1)
        replace HBR := Lib.hid (below_then HBR.out hb1)
        replace HB9 := Lib.hid (below_then HB9.out hb1)
        clear hb1
        go_wp2_with fail
        refine (offV hok.out n0 (by omega) (by omega) (by omega) hl HM _ (ht.out.below HB9.out)).mono ?_
        rintro e u2 ⟨rfl, hb1⟩
        replace HC := Lib.hid (heap_lift HC.out hb1)
        replace HBR := Lib.hid (below_then HBR.out hb1)
        clear hb1 HB9 HX
        have c0 := heap_cell HC.out (j := 0) rfl
        by_cases ca : (k : Int) < kl
        · have HL1 : Hid (Pure.leastTo v kl (k + 1) = l) := Lib.hid (by rw [← HL2.out, Pure.leastTo_no (by omega), Pure.leastTo_no (by omega)])
          have HG1 : Hid (Pure.mostTo v kl kh (k + 1) = g) := Lib.hid (by rw [← HG2.out, Pure.mostTo_no (by omega), Pure.mostTo_no (by omega)])
          have r1 : (k : Int) ≤ d := by omega
          have r2 : ¬ ((n : Int) - k ≤ b - d) := by omega
          go_wp2_with fail
          go_roundw
          case rel => exact ⟨k + 1, by omega, by go_num, by rw [HL1.out], by rw [HG1.out], by rw [HT1.out], HBR.out⟩
          case measure => (simp [intOf] <;> omega)
        · by_cases cb : (k : Int) = kl
          · have HL1 : Hid (Pure.leastTo v kl (k + 1) = m) := Lib.hid (by rw [Pure.leastTo_yes (by omega), ← cb, HMK.out])
            have HG1 : Hid (Pure.mostTo v kl kh (k + 1) = m) := Lib.hid (by rw [Pure.mostTo_in (by omega) (by omega), HMK.out])
            have hlm : l = -1 := by rw [← HL2.out]; exact Pure.leastTo_no (by omega)
            have r1 : (k : Int) ≤ d := by omega
            have r2 : (n : Int) - k ≤ b - d := by omega
            have r3 : l < 0 := by omega
            clear cb hlm
            go_wp2_with fail
            go_roundw
            case rel => exact ⟨k + 1, by omega, by go_num, by rw [HL1.out], by rw [HG1.out], by rw [HT1.out], HBR.out⟩
            case measure => (simp [intOf] <;> omega)
          · have HL1 : Hid (Pure.leastTo v kl (k + 1) = l) := Lib.hid (by rw [← HL2.out, Pure.leastTo_yes (by omega), Pure.leastTo_yes (by omega)])
            by_cases cc : (k : Int) ≤ kh
            · have HG1 : Hid (Pure.mostTo v kl kh (k + 1) = m) := Lib.hid (by rw [Pure.mostTo_in (by omega) cc, HMK.out])
              have r1 : (k : Int) ≤ d := by omega
              have r2 : (n : Int) - k ≤ b - d := by omega
              have r3 : ¬ l < 0 := by
                have := (hv0.out kl).1
                rw [← HL2.out, Pure.leastTo_yes (by omega)]
                omega
              go_wp2_with fail
              go_roundw
              case rel => exact ⟨k + 1, by omega, by go_num, by rw [HL1.out], by rw [HG1.out], by rw [HT1.out], HBR.out⟩
              case measure => (simp [intOf] <;> omega)
            · have HG1 : Hid (Pure.mostTo v kl kh (k + 1) = g) := Lib.hid (by rw [← HG2.out, Pure.mostTo_out (by omega) (by omega)])
              have r1 : ¬ (k : Int) ≤ d := by omega
              go_wp2_with fail
              go_roundw
              case rel => exact ⟨k + 1, by omega, by go_num, by rw [HL1.out], by rw [HG1.out], by rw [HT1.out], HBR.out⟩
              case measure => (simp [intOf] <;> omega)
      · obtain rfl : k = n + 1 := by omega
        have hl3 : l = v kl := by rw [← hl2, Pure.leastTo_yes (by omega)]
        have hg3 : g = v kh := by
          rw [← hg2]
          unfold Pure.mostTo
          rw [if_neg (by omega)]
          congr 1
          omega
        have HA1 : Hid (Pure.leP l 1 fn fd = true) := Lib.hid (by rw [hl3]; exact hle1.out)
        have HA2 : Hid (Pure.leP fn fd g 1 = true) := Lib.hid (by rw [hg3]; exact hle2.out)
        have l0' : 0 ≤ l := by rw [hl3]; exact (hv0.out kl).1
        have l1' : l ≤ 1000000 := by rw [hl3]; exact (hv0.out kl).2
        have g0' : 0 ≤ g := by rw [hg3]; exact (hv0.out kh).1
        have g1' : g ≤ 1000000 := by rw [hg3]; exact (hv0.out kh).2
        clear hl2 hg2 ht2 hl3 hg3 hbr HL2 HG2
        go_wp2_with fail
        have HK : Hid (∀ v : World, Below wr.heap.size wr v → (v.cell? ⟨Bf, 0, none⟩ = some (.int .i64 fn) ∧ v.cell? ⟨Bf, 1, none⟩ = some (.int .i64 fd) ∧ Below wr.heap.size wr v)) :=
          Lib.hid (fun v k => ⟨below_cell k (heap_cell HX.out (j := 0) rfl), below_cell k (heap_cell HX.out (j := 1) rfl), k⟩)
        go_region_held3 (fun v => v.cell? ⟨Bf, 0, none⟩ = some (.int .i64 fn) ∧ v.cell? ⟨Bf, 1, none⟩ = some (.int .i64 fd) ∧ Below wr.heap.size wr v)
          (first | exact HK.out _ (Below.refl _ _).drew | with_reducible exact HK.out _ hqu1 | with_reducible exact HK.out _ hqu2)
          (first
            | (go_at_call 43; with_reducible refine (newPart_any _ _ _).mono ?_; rintro e u1 ⟨rfl, hbu1⟩; have hqu1 : Below wr.heap.size wr u1 := below_then (And.right (And.right (by assumption))) hbu1)
            | (go_at_call 45; (first | with_reducible refine (atMostYes HA1 l0' (by omega) (by decide) (by decide) fn0 fn1 fd0 fd1 _).mono ?_ | with_reducible refine (atMostYes HA2 fn0 fn1 fd0 fd1 g0' (by omega) (by decide) (by decide) _).mono ?_); rintro e u2 ⟨rfl, hbu2⟩; have hqu2 : Below wr.heap.size wr u2 := below_then (And.right (And.right (by assumption))) hbu2))
        all_goals
          go_wp2_with fail
          go_ret
          exact ⟨rfl, below_then HB9.out hqu2⟩

/-- The walk of SampleFair. -/
theorem fair_walk (b lo hi x y : Int) (a : Option Addr) (len cap : Nat) (F P : Nat → Int) (hl : len ≤ 9223372036854775807) (x0 : 0 ≤ x) (x1 : x ≤ 255) (y0 : 0 ≤ y) (y1 : y ≤ 255) (w : World) (ht : TermsAt w a len F P) :
    Calls Try.prog 14 #[cargoV b lo hi, .slice a len cap, .int .u8 x, .int .u8 y] w fun e w' => e = .returned (.bool true) ∧ Below w.heap.size w w' := by
  cases hok : Pure.okCargo b lo hi with
  | false => exact fair_bad b lo hi x y a len cap (Lib.hid hok) w
  | true =>
    cases hot : Pure.okTerms len F P with
    | false => exact fair_off b lo hi x y a len cap F P (Lib.hid hok) (Lib.hid hot) hl w (Lib.hid ht)
    | true =>
      have hk := hok
      unfold Pure.okCargo at hk
      rw [decide_eq_true_eq] at hk
      obtain ⟨b1, b2, l0, l1, hb⟩ := hk
      have e0 : 0 ≤ x % (hi - lo + 1) := Int.emod_nonneg _ (by omega)
      have e1 : x % (hi - lo + 1) < hi - lo + 1 := Int.emod_lt_of_pos _ (by omega)
      have e2 : 0 ≤ y % (b + 1) := Int.emod_nonneg _ (by omega)
      have e3 : y % (b + 1) < b + 1 := Int.emod_lt_of_pos _ (by omega)
      obtain ⟨n, hn⟩ : ∃ n : Nat, y % (b + 1) = n := ⟨(y % (b + 1)).toNat, by omega⟩
      obtain ⟨d, hd⟩ : ∃ d, lo + x % (hi - lo + 1) = d := ⟨_, rfl⟩
      have s0 : 0 < Pure.sets b n := Pure.sets_pos (by omega) (by omega)
      have s1 : Pure.sets b n ≤ 68719476736 := Pure.sets_le b2
      have f0 : 0 ≤ Pure.fair b d n len F P := Pure.fair_nonneg hot
      have f1 : Pure.fair b d n len F P ≤ 2542620639232000000 := Pure.fair_le hot b2 (by omega)
      have ln := Pure.low_num (n := Pure.fair b d n len F P) f0 s0
      have ld := Pure.low_den (n := Pure.fair b d n len F P) f0 s0
      refine fair_good b lo hi x y d _ _ (max 0 ((n : Int) - (b - d))) (min (n : Int) d) n (fun j => Pure.off len F P n j) a len cap F P (Lib.hid hok) (Lib.hid hot) hl b1 b2 l0 l1 (by omega) hb x0 x1 y0 y1 (Lib.hid hd) (Lib.hid hn) (by omega) (by omega) (by omega) (by omega)
        (Lib.hid rfl) ln.1 (by omega) (by omega) (by omega) (Lib.hid (fun _ => rfl)) (Lib.hid (fun j => Pure.off_span hot n j)) (Lib.hid (fun j k h1 h2 => Pure.off_mono hot h1 h2))
        (by omega) (by omega) (by omega) (by omega) (by omega) (by omega) (by omega) (Lib.hid ?_) (Lib.hid ?_) w (Lib.hid ht)
      · unfold Pure.leP
        rw [decide_eq_true_eq, Pure.low_ge f0 s0, Int.mul_one]
        exact Pure.fair_lo hot (by omega) (by omega) (by omega) (by omega) (fun j hj => by omega)
      · unfold Pure.leP
        rw [decide_eq_true_eq, Pure.low_le f0 s0, Int.mul_one]
        exact Pure.fair_hi hot (by omega) (by omega) (by omega) (fun j h1 h2 => by omega)

end Go.Proofs.Ytnldipniaphmgaa

namespace Go.Proofs.Ytnldipniaphmgaa
open Go.ChangeShapes Go.WideShapes Go.ChangeAt Go.RowKit Go.Joins Go.Deep

section
variable {H : Type} {enc : TypeId × Value → H} {w : World} {base : Nat} {sp : Nat → Bool} {held : Bool}

set_option maxRecDepth 100000 in
/-- Terms that came in. -/
theorem open_terms {r : Reach} {b0 : Nat} {v : Value} {d : DataW H} {p : List MemPlace} (hv : Value.okWide Try.prog w r b0 95 v) (h : DataW.Trod enc Try.prog w base sp held 95 v d p) :
    ∃ (l : Option Addr) (len cap : Nat) (F P : Nat → Int), v = .slice l len cap ∧ (l = none → len = 0) ∧ len ≤ 9223372036854775807 ∧ TermsAt w l len F P := by
  obtain ⟨a0, len0, cap0, rfl⟩ := okWide_slice Try.underlying95 hv
  obtain ⟨fuel, hf⟩ := h
  rcases open_slice Try.underlying95 hf with ⟨h0, _⟩ | ⟨a, len, cap, m, n, D, Pl, h0, _, hl, hm, hmm, _, hi⟩
  · simp [Value.cells] at h0
    obtain ⟨rfl, rfl, rfl⟩ := h0
    exact ⟨none, 0, 0, fun _ => 0, fun _ => 0, rfl, fun _ => rfl, by omega, fun j hj => absurd hj (Nat.not_lt_zero j)⟩
  · simp [Value.cells] at h0
    obtain ⟨rfl, rfl, rfl⟩ := h0
    have hmax : cap0 ≤ 9223372036854775807 := Nat.le_trans hm (by unfold maxLen; omega)
    have hlm : len0 ≤ m := by rw [hmm]; split <;> omega
    have hc : Try.prog.cellsOf 153 = 2 := by kernel_rfl
    have key : ∀ j, j < len0 → ∃ x y : Int, w.cell? (a.add (j * 2)) = some (.int .i64 x) ∧ w.cell? (a.add (j * 2 + 1)) = some (.int .i64 y) := fun j hj => by
      obtain ⟨cs', hcs, ht⟩ := hi j (by omega)
      rw [hc] at hcs
      obtain ⟨y0, y1, k, _, hlen, h1, h2⟩ := trod_struct2 Try.underlying153 ht
      obtain ⟨_, hcl, hat⟩ := World.cells?_some hcs
      rw [hc] at hlen
      match cs', hlen with
      | [u0, u1], _ =>
        simp [cellsInt] at h1 h2
        obtain ⟨x, rfl, _, _⟩ := read_int h1
        obtain ⟨y, rfl, _, _⟩ := read_int h2
        have k0 := hat 0 (by simp)
        have k1 := hat 1 (by simp)
        refine ⟨x, y, by simpa [Go.Deep.add_add] using k0, by simpa [Go.Deep.add_add] using k1⟩
    by_cases hz : len0 = 0
    · subst hz
      exact ⟨some a, 0, cap0, fun _ => 0, fun _ => 0, rfl, fun _ => rfl, by omega, fun j hj => absurd hj (Nat.not_lt_zero j)⟩
    · obtain ⟨b, off, spot⟩ := a
      have hspot : spot = none := by
        obtain ⟨x, _, hx, _⟩ := key 0 (by omega)
        simpa [Addr.add] using World.cell?_spot hx
      subst hspot
      have key2 : ∀ j, j < len0 → ∃ x y : Int, w.cell? ⟨b, off + j * 2, none⟩ = some (.int .i64 x) ∧ w.cell? ⟨b, off + j * 2 + 1, none⟩ = some (.int .i64 y) := fun j hj => by
        obtain ⟨x, y, h1, h2⟩ := key j hj
        rw [Go.WideShapes.add_plain] at h1 h2
        exact ⟨x, y, h1, by rw [← h2]; rfl⟩
      refine ⟨some ⟨b, off, none⟩, len0, cap0, fun j => if hj : j < len0 then (key2 j hj).choose else 0, fun j => if hj : j < len0 then (key2 j hj).choose_spec.choose else 0, rfl, (by intro h; cases h), by omega, fun j hj => ⟨b, off, rfl, ?_, ?_⟩⟩
      · dsimp only
        rw [dif_pos hj]
        exact (key2 j hj).choose_spec.choose_spec.1
      · dsimp only
        rw [dif_pos hj]
        exact (key2 j hj).choose_spec.choose_spec.2
end

theorem u8_span {n : Int} (h : (Lit.int .u8 n).wf = true) : 0 ≤ n ∧ n ≤ 255 := by
  simp [Lit.wf, IntKind.min, IntKind.max, IntKind.bits, IntKind.signed] at h
  omega

set_option maxRecDepth 100000 in
theorem fair_lifted (os : Os) (started : os.Started) (H : Type) (enc : TypeId × Value → H) :
    ReturnsInHanded {} Try.checked os 14 .any (Rows.sampleFairSpec.pre6 enc Try.prog Try.f14 Rows.sampleFairRow.domain false) (Rows.sampleFairSpec.post enc Try.prog Try.f14 false true false false) := by
  refine returnsInHanded_of_change (C := Try.checked) ownKnob_none started (by kernel_rfl) Try.func14
    (ChangeSpec.witness6 (enc := enc) (C := Try.checked) false ⟨#[], #[.agg #[.int .i64 0, .int .i64 0, .int .i64 0], .slice none 0 0, .int .u8 0, .int .u8 0], []⟩ 8 (by kernel_rfl) (by kernel_rfl) (by kernel_rfl) (by kernel_rfl)) ?_
  intro W base args ds gs before hval0 hW _ _
  have hval : ∀ (j : Nat) t v, Try.f14.params[j]? = some t → args[j]? = some v → Value.okWide Try.prog W .any base t v := hval0
  have hW' := hW
  obtain ⟨pp, qq, hA0, hV, rfl, hfz, hnd⟩ := hW
  have hA : DataW.TrodAll enc Try.prog W 0 (fun _ => true) true Try.f14.params.toList args.toList ds pp := hA0
  rw [Try.params14] at hA hval
  obtain ⟨v0, vs0, d0, ds0, p0, q0, hargs, rfl, rfl, h0, r0⟩ := trodAll_cons hA
  obtain ⟨v1, vs1, d1, ds1, p1, q1, rfl, rfl, rfl, h1, r1⟩ := trodAll_cons r0
  obtain ⟨v2, vs2, d2, ds2, p2, q2, rfl, rfl, rfl, h2, r2⟩ := trodAll_cons r1
  obtain ⟨v3, vs3, d3, ds3, p3, q3, rfl, rfl, rfl, h3, r3⟩ := trodAll_cons r2
  obtain ⟨rfl, rfl, rfl⟩ := trodAll_nil r3
  obtain rfl : args = #[v0, v1, v2, v3] := by cases args; simp_all
  obtain ⟨rfl, rfl⟩ := trodVars_none hV
  obtain ⟨b, lo, hi, rfl, rfl, rfl, wb, wl, wh⟩ := open_cargo (hval 0 25 v0 rfl rfl) h0
  obtain ⟨x, rfl, rfl, rfl, wx⟩ := open_int Try.underlying5 (hval 2 5 v2 rfl rfl) h2
  obtain ⟨y, rfl, rfl, rfl, wy⟩ := open_int Try.underlying5 (hval 3 5 v3 rfl rfl) h3
  have h1k := h1
  obtain ⟨l, len, cap, F, P, rfl, _, hlen, hterms⟩ := open_terms (hval 1 95 v1 rfl rfl) h1
  clear hA0 hval0
  simp only [List.append_nil, List.nil_append] at hW'
  have hlt : ∀ x ∈ p1, x.block < W.heap.size := fun x hx => by simpa using hW'.lt x hx
  refine (fair_walk b lo hi x y l len cap F P hlen (u8_span wx).1 (u8_span wx).2 (u8_span wy).1 (u8_span wy).2 W hterms).mono fun e W' ⟨he, hb⟩ => ?_
  subst he
  refine ⟨_, rfl, _, _, _, [], p1, [], hW', ?_, ?_, rfl, hb.frame _, fun h => by cases h⟩
  · exact trodAll_mk1 (shut_bool Try.underlying4 true)
  · have hs : DataW.Trod enc Try.prog W' 0 (fun b => decide (b < W.heap.size)) true 95 (.slice l len cap) d1 p1 := Below.trod laidOut (by kernel_rfl) (of_decide_eq_true (by kernel_rfl)) h1k hb hlt
    have := trodAll_cons_mk (shut_cargo wb wl wh) (trodAll_cons_mk hs (trodAll_cons_mk (shut_int Try.underlying5 wx) (trodAll_cons_mk (shut_int Try.underlying5 wy) trodAll_mk0)))
    simp only [List.nil_append, List.append_nil] at this
    exact this

/-- SampleFair returns true for every input. -/
theorem fair_holds : Rows.SampleFairSaid :=
  OpenClaim.holds_of_wide 14 Try.f14 rfl rfl rfl rfl rfl rfl rfl ⟨rfl, rfl, rfl, rfl, rfl⟩ rfl rfl rfl rfl rfl (by kernel_rfl) Try.func14 (by kernel_rfl)
    (of_decide_eq_true (by kernel_rfl)) (by unfold Func.isWrapper; first | (rw [if_pos (by decide +kernel)]; kernel_rfl) | (rw [if_neg (by decide +kernel)]; exact ⟨rfl, rfl⟩))
    (fun os started H enc _ => fair_lifted os started H enc)

end Go.Proofs.Ytnldipniaphmgaa
