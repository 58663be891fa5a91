/-
  The contract of Fair.
-/
import Derived.Test.YteckpbghmhelpaaOffTop
namespace Go.Proofs.Yteckpbghmhelpaa
open Go.RowKit Go.Shelf

namespace Pure
/-- The first of four codes that is an error. -/
def first4 (a b c d : Int) : Int := ([a, b, c, d].find? (· != 0)).getD 0
theorem first4_zero {a b c d : Int} (h : first4 a b c d = 0) : a = 0 ∧ b = 0 ∧ c = 0 ∧ d = 0 := by
  unfold first4 at h
  by_cases ha : a = 0
  · by_cases hb : b = 0
    · by_cases hc : c = 0
      · by_cases hd : d = 0
        · exact ⟨ha, hb, hc, hd⟩
        · simp [ha, hb, hc, hd] at h
      · simp [ha, hb, hc] at h
    · simp [ha, hb] at h
  · simp [ha] at h
theorem offTo_span {len : Nat} {F P : Nat → Int} (h : ∀ j, j < len → fits F P j) (o f : Int) : ∀ k, k ≤ len → 0 ≤ offTo F P o f k ∧ offTo F P o f k ≤ 1000000
  | 0, _ => by simp [offTo]
  | k + 1, hk => by
    by_cases hy : F k * o ≤ f * 100
    · rw [offTo_yes hy]
      have := h k (by omega)
      unfold fits at this
      omega
    · rw [offTo_no hy]
      exact offTo_span h o f k (by omega)
theorem off_span {len : Nat} {F P : Nat → Int} (h : okTerms len F P = true) (o f : Int) : 0 ≤ off len F P o f ∧ off len F P o f ≤ 1000000 := by
  have h2 : len ≤ 5 ∧ ∀ j, j < len → fits F P j := by unfold okTerms at h; simpa using h
  unfold off
  split
  · omega
  · exact offTo_span h2.2 o f len (Nat.le_refl _)
theorem mul_million {x y : Int} (_h0 : 0 ≤ x) (h1 : x ≤ 68719476736) (h2 : 0 ≤ y) (h3 : y ≤ 1000000) : x * y ≤ 249280325320399346 := by
  have := Int.mul_le_mul h1 h3 h2 (by decide : (0 : Int) ≤ 68719476736)
  omega
theorem mul_million' {x y : Int} (_h0 : 0 ≤ x) (h1 : x ≤ 68719476736) (h2 : 0 ≤ y) (h3 : y ≤ 1000000) : x * y ≤ 68719476736000000 := by
  have := Int.mul_le_mul h1 h3 h2 (by decide : (0 : Int) ≤ 68719476736)
  omega
/-- What all sets of o bags take off together. -/
def fair (b d o : Int) (len : Nat) (F P : Nat → Int) : Int := sum b d o (fun j => off len F P o j)
theorem fair_nonneg {b d o : Int} {len : Nat} {F P : Nat → Int} (h : okTerms len F P = true) : 0 ≤ fair b d o len F P := sumTo_nonneg (n := (o + 1).toNat) (fun j _ => (off_span h o j).1) _ (Nat.le_refl _)
theorem fair_le {b d o : Int} {len : Nat} {F P : Nat → Int} (h : okTerms len F P = true) (hb : b ≤ 36) (ho : o ≤ 36) : fair b d o len F P ≤ 2542620639232000000 := by
  have h := sumTo_le (b := b) (d := d) (o := o) (f := fun j => off len F P o j) (n := (o + 1).toNat) (B := 68719476736000000) (fun j hj => mul_million' (ways_nonneg b d o j) (ways_le hb) (off_span h o j).1 (off_span h o j).2) _ (Nat.le_refl _)
  unfold fair sum
  omega
end Pure

theorem firstError4 (a b c d : Int) (s cap : Nat) (w : World) (h0 : w.cell? ⟨s, 0, none⟩ = some (.int .i64 a)) (h1 : w.cell? ⟨s, 1, none⟩ = some (.int .i64 b)) (h2 : w.cell? ⟨s, 2, none⟩ = some (.int .i64 c)) (h3 : w.cell? ⟨s, 3, none⟩ = some (.int .i64 d)) :
    Calls Try.prog 68 #[.slice (some ⟨s, 0, none⟩) 4 cap] w fun e w' => e = .returned (.int .i64 (Pure.first4 a b c d)) ∧ Below w.heap.size w w' :=
  firstError_any s 4 cap [a, b, c, d] rfl (by omega) w (World.block_lt_of_cell? w _ h0) (fun j hj => by
    have : j = 0 ∨ j = 1 ∨ j = 2 ∨ j = 3 := by omega
    rcases this with rfl | rfl | rfl | rfl
    · exact h0
    · exact h1
    · exact h2
    · exact h3)

set_option maxHeartbeats 1000000 in
set_option maxRecDepth 100000 in
theorem fairOne_any (X : Nat) (a : Option Addr) (len cap : Nat) (F P : Nat → Int) (o j : Int) (hok : Pure.okTerms len F P = true) (ho0 : 0 ≤ o) (ho : o ≤ 36) (hj0 : 0 ≤ j) (hj : j ≤ o) (w : World)
    (hX : w.cell? ⟨X, 0, none⟩ = some (.slice a len cap)) (ht : TermsAt w a len F P) :
    Calls Try.prog 110 #[.agg #[.int .i64 o, .int .i64 j], .pointer (some ⟨X, 0, none⟩)] w fun e w' => e = .returned (.int .i64 (Pure.off len F P o j)) ∧ Below w.heap.size w w' := by
  have hX1 := cell_up hX (.cells #[.int .i64 o, .int .i64 j] 27)
  have hb : Below w.heap.size w (w.alloc (.cells #[.int .i64 o, .int .i64 j] 27)) := (Below.refl _ _).alloc (Nat.le_refl _) _
  have HT := Lib.hid (ht.below hb)
  have HB := Lib.hid hb
  have HO := Lib.hid hok
  clear hX ht hb hok
  go_enter Try.func110, Try.ntmps110
  go_wp2_with fail
  refine (off_any a len cap F P o j HO.out ho0 ho hj0 hj _ HT.out).mono ?_
  rintro e w2 ⟨rfl, hB2⟩
  have HB2 := Lib.hid hB2
  clear hB2
  go_wp2_with fail
  go_ret
  exact ⟨rfl, HB.out.trans (HB2.out.mono HB.out.size)⟩

set_option maxHeartbeats 2000000 in
set_option maxRecDepth 100000 in
/-- **Fair**. -/
theorem fair_any (b lo hi d o : Int) (a : Option Addr) (len cap : Nat) (F P : Nat → Int) (hl : len ≤ 9223372036854775807) (w : World) (ht : TermsAt w a len F P) :
    Calls Try.prog 48 #[cargoV b lo hi, .int .i64 d, .int .i64 o, .slice a len cap] w fun e w' => e = .returned (Pure.res2 (Pure.first4 (Pure.err (Pure.okCargo b lo hi) 10) (Pure.err (Pure.okIn lo hi d) 2) (Pure.err (Pure.okTerms len F P) 14) (Pure.err (Pure.okIn 0 b o) 2)) (partV (Pure.fair b d o len F P) (Pure.sets b o))) ∧ Below w.heap.size w w' := by
  have HT := Lib.hid ht
  clear ht
  go_enter Try.func48, Try.ntmps48
  go_upto_region 1 with fail
  obtain ⟨W1, hW1⟩ : ∃ W1, ((w.alloc (.cells #[.int .i64 b, .int .i64 lo, .int .i64 hi] 25)).alloc (.cells #[.slice a len cap] 88)).alloc (.cells #[.int .i64 0, .int .i64 0] 34) = W1 := ⟨_, rfl⟩
  have HB1 : Hid (Below w.heap.size w W1) := by rw [← hW1]; exact Lib.hid ((((Below.refl _ _).alloc (Nat.le_refl _) _).alloc (by simp) _).alloc (by simp; omega) _)
  have HSZ : Hid (W1.heap.size = w.heap.size + 3) := by rw [← hW1]; exact Lib.hid (by simp)
  have e : ∀ j v, (#[Value.int .i64 b, .int .i64 lo, .int .i64 hi])[j]? = some v → W1.cell? ⟨w.heap.size, j, none⟩ = some v := by rw [← hW1]; intro j v h; exact cell_up (cell_up ((cells_top _ _ _ rfl j).trans h) _) _
  have s0 : W1.cell? ⟨w.heap.size + 1, 0, none⟩ = some (.slice a len cap) := by rw [← hW1]; exact cell_up (cell_top _ _ _ (by simp)) _
  have r : ∀ j v, (#[Value.int .i64 0, .int .i64 0])[j]? = some v → W1.cell? ⟨w.heap.size + 1 + 1, j, none⟩ = some v := by rw [← hW1]; intro j v h; exact (cells_top _ _ _ (by simp) j).trans h
  have fr : ∀ j, W1.frozen? ⟨w.heap.size + 1 + 1, j, none⟩ = false := by rw [← hW1]; intro j; exact frozen_top _ _ _ (by simp) j
  rw [hW1]
  clear hW1
  have HK0 : Hid (W1.drew.cell? ⟨w.heap.size, 0, none⟩ = some (.int .i64 b) ∧ W1.drew.cell? ⟨w.heap.size, 1, none⟩ = some (.int .i64 lo) ∧ W1.drew.cell? ⟨w.heap.size, 2, none⟩ = some (.int .i64 hi) ∧ W1.drew.cell? ⟨w.heap.size + 1, 0, none⟩ = some (.slice a len cap) ∧ Below W1.heap.size W1 W1.drew) :=
    Lib.hid ⟨e 0 _ rfl, e 1 _ rfl, e 2 _ rfl, s0, (Below.refl _ _).drew⟩
  have HT1 : Hid (TermsAt W1 a len F P) := Lib.hid (HT.out.below HB1.out)
  have HKT : Hid (∀ u : World, (u.cell? ⟨w.heap.size, 0, none⟩ = some (.int .i64 b) ∧ u.cell? ⟨w.heap.size, 1, none⟩ = some (.int .i64 lo) ∧ u.cell? ⟨w.heap.size, 2, none⟩ = some (.int .i64 hi) ∧ u.cell? ⟨w.heap.size + 1, 0, none⟩ = some (.slice a len cap) ∧ Below W1.heap.size W1 u) → TermsAt u a len F P) := Lib.hid (fun u h => HT1.out.below h.2.2.2.2)
  have HKS : Hid (∀ u v : World, (u.cell? ⟨w.heap.size, 0, none⟩ = some (.int .i64 b) ∧ u.cell? ⟨w.heap.size, 1, none⟩ = some (.int .i64 lo) ∧ u.cell? ⟨w.heap.size, 2, none⟩ = some (.int .i64 hi) ∧ u.cell? ⟨w.heap.size + 1, 0, none⟩ = some (.slice a len cap) ∧ Below W1.heap.size W1 u) → Below u.heap.size u v →
      (v.cell? ⟨w.heap.size, 0, none⟩ = some (.int .i64 b) ∧ v.cell? ⟨w.heap.size, 1, none⟩ = some (.int .i64 lo) ∧ v.cell? ⟨w.heap.size, 2, none⟩ = some (.int .i64 hi) ∧ v.cell? ⟨w.heap.size + 1, 0, none⟩ = some (.slice a len cap) ∧ Below W1.heap.size W1 v)) :=
    Lib.hid (fun u v h k => ⟨below_cell k h.1, below_cell k h.2.1, below_cell k h.2.2.1, below_cell k h.2.2.2.1, h.2.2.2.2.trans (k.mono h.2.2.2.2.size)⟩)
  have HE := Lib.hid e
  have HS0 := Lib.hid s0
  have HR := Lib.hid r
  have HFR := Lib.hid fr
  clear e r fr s0
  go_cut [10] (fun s wx => s = .int .i64 (Pure.first4 (Pure.err (Pure.okCargo b lo hi) 10) (Pure.err (Pure.okIn lo hi d) 2) (Pure.err (Pure.okTerms len F P) 14) (Pure.err (Pure.okIn 0 b o) 2)) ∧ Below W1.heap.size W1 wx)
  case first =>
    go_region_held3 (fun w' => w'.cell? ⟨w.heap.size, 0, none⟩ = some (.int .i64 b) ∧ w'.cell? ⟨w.heap.size, 1, none⟩ = some (.int .i64 lo) ∧ w'.cell? ⟨w.heap.size, 2, none⟩ = some (.int .i64 hi) ∧ w'.cell? ⟨w.heap.size + 1, 0, none⟩ = some (.slice a len cap) ∧ Below W1.heap.size W1 w')
      (first | exact HK0.out | exact HKS.out _ _ (by assumption) (by assumption) | exact HKS.out _ _ (by assumption) ((Below.refl _ _).alloc (Nat.le_refl _) _))
      (first
        | (go_at_call 22; refine (check_any _ _ _ _).mono ?_; rintro e w' ⟨rfl, hb⟩)
        | (go_at_call 106; refine (checkTerms_any a len cap F P hl _ (HKT.out _ (by assumption))).mono ?_; rintro e w' ⟨rfl, hb⟩)
        | (go_at_call 79; refine (checkOpened_any _ _ _ _ _).mono ?_; rintro e w' ⟨rfl, hb⟩)
        | (go_at_call 70; refine (checkDirty1 _ _ _ d _ _ _ ?_).mono ?_; (first | exact cell_top _ _ _ rfl | (refine below_cell (by assumption) ?_; (first | exact cell_top _ _ _ rfl | exact cell_top_drew _ _ _ rfl | (refine below_cell (by assumption) ?_; (first | exact cell_top _ _ _ rfl | exact cell_top_drew _ _ _ rfl))))); rintro e w' ⟨rfl, hb⟩)
        | (go_at_call 68; refine (firstError4 (Pure.err (Pure.okCargo b lo hi) 10) (Pure.err (Pure.okIn lo hi d) 2) (Pure.err (Pure.okTerms len F P) 14) (Pure.err (Pure.okIn 0 b o) 2) _ _ _ (cells_top _ _ _ rfl 0) (cells_top _ _ _ rfl 1) (cells_top _ _ _ rfl 2) (cells_top _ _ _ rfl 3)).mono ?_; rintro e w' ⟨rfl, hb⟩))
    all_goals (go_wp2_with fail; go_meet; refine ⟨rfl, ?_⟩; exact And.right (And.right (And.right (And.right (by assumption)))))
  case rest =>
    obtain ⟨rfl, hBc⟩ := hcut
    obtain ⟨code, hcode⟩ : ∃ c, Pure.first4 (Pure.err (Pure.okCargo b lo hi) 10) (Pure.err (Pure.okIn lo hi d) 2) (Pure.err (Pure.okTerms len F P) 14) (Pure.err (Pure.okIn 0 b o) 2) = c := ⟨_, rfl⟩
    rw [hcode]
    have r0 := below_cell hBc (HR.out 0 _ rfl)
    have r1 := below_cell hBc (HR.out 1 _ rfl)
    have f0 := below_frozen hBc (HR.out 0 _ rfl) (HFR.out 0)
    have f1 := below_frozen hBc (HR.out 1 _ rfl) (HFR.out 1)
    have HBC := Lib.hid hBc
    have HCODE := Lib.hid hcode
    clear hBc hcode HK0 HKS HKT
    by_cases h0 : code = 0
    · subst h0
      obtain ⟨q1, q2, q4, q3⟩ := Pure.first4_zero HCODE.out
      have q1 := Pure.err_zero q1 (by decide)
      have q2 := Pure.err_zero q2 (by decide)
      have q3 := Pure.err_zero q3 (by decide)
      have q4 := Pure.err_zero q4 (by decide)
      have Q4 := Lib.hid q4
      clear q4
      unfold Pure.okCargo at q1
      unfold Pure.okIn at q2 q3
      simp only [decide_eq_true_eq] at q1 q2 q3
      obtain ⟨b1, b2, b3, b4, b5⟩ := q1
      obtain ⟨d1, d2⟩ := q2
      obtain ⟨o1, o2⟩ := q3
      have c0 := below_cell HBC.out (HE.out 0 _ rfl)
      have c1 := below_cell HBC.out (HE.out 1 _ rfl)
      have c2 := below_cell HBC.out (HE.out 2 _ rfl)
      go_wp2_with fail
      refine (work_any b lo hi _).mono ?_
      rintro e w2 ⟨M, T, C, rfl, hMw, hw2, hB2⟩
      have k2 := below_cell hB2 r0
      have k3 := below_cell hB2 r1
      have m2 := below_frozen hB2 r0 f0
      have m3 := below_frozen hB2 r1 f1
      have K2 := Lib.hid k2
      have K3 := Lib.hid k3
      have M2 := Lib.hid m2
      have M3 := Lib.hid m3
      have HMW := Lib.hid hMw
      have HB2 := Lib.hid hB2
      have HW2 := Lib.hid hw2
      clear hMw hB2 hw2 c0 c1 c2 r0 r1 f0 f1 k2 k3 m2 m3
      have HWA : Hid (Cnt (w2.alloc (.cells #[.int .i64 b, .int .i64 lo, .int .i64 hi, setsV T C] 123)) M T C) := Lib.hid (HW2.out.alloc _)
      go_wp2_with fail
      have hsl : w2.cell? ⟨w.heap.size + 1, 0, none⟩ = some (.slice a len cap) := below_cell HB2.out (below_cell HBC.out HS0.out)
      have htt : TermsAt w2 a len F P := (HT1.out.below HBC.out).below HB2.out
      have hsl2 := cell_up hsl (.cells #[.int .i64 b, .int .i64 lo, .int .i64 hi, setsV T C] 123)
      have htt2 : TermsAt (w2.alloc (.cells #[.int .i64 b, .int .i64 lo, .int .i64 hi, setsV T C] 123)) a len F P := htt.below ((Below.refl _ _).alloc (Nat.le_refl _) _)
      have HSL := Lib.hid hsl2
      have HTT := Lib.hid htt2
      clear hsl hsl2 htt htt2
      refine (sum_any b lo hi d o (by omega) b2 (by omega) (by omega) (by omega) o1 (by omega) 110 #[.pointer (some ⟨w.heap.size + 1, 0, none⟩)] (fun j => Pure.off len F P o j) _ HWA.out (enters_of Try.func110 (by kernel_rfl) rfl)
        (fun W hs j hj => (fairOne_any (w.heap.size + 1) a len cap F P o j Q4.out o1 (by omega) (by omega) (by omega) W (hs.cell HSL.out (cell_not_map HWA.out.memo HSL.out)) (HTT.out.step hs HWA.out.memo)).mono fun e w' h => ⟨h.1, Step.of_below h.2 hs.memo⟩)
        (fun j hj => ⟨(Pure.off_span Q4.out o j).1, Pure.mul_million (Pure.ways_nonneg _ _ _ _) (Pure.ways_le b2) (Pure.off_span Q4.out o j).1 (Pure.off_span Q4.out o j).2⟩)).mono ?_
      rintro e w3 ⟨rfl, hs3⟩
      have h30 : ∀ j v, (#[Value.int .i64 b, .int .i64 lo, .int .i64 hi, setsV T C])[j]? = some v → w3.cell? ⟨w2.heap.size, j, none⟩ = some v := fun j v h => hs3.cell ((cells_top _ _ _ rfl j).trans h) (by have := HW2.out.memo.lt; simp; omega)
      have a0 := h30 0 _ rfl
      have a1 := h30 1 _ rfl
      have a2 := h30 2 _ rfl
      have a3 := h30 3 _ rfl
      have HS3 := Lib.hid hs3
      clear hs3 h30
      go_wp2_with fail
      refine (draws_any b lo hi o b2 _ (HWA.out.step HS3.out)).mono ?_
      rintro e w4 ⟨rfl, hs4⟩
      have HS4 := Lib.hid hs4
      clear hs4
      go_wp2_with fail
      refine (part_any _ _ (Pure.fair_nonneg Q4.out) (Int.le_trans (Pure.fair_le Q4.out b2 (by omega)) (by decide)) (Pure.sets_pos o1 o2) (Int.le_trans (Pure.sets_le b2) (by decide)) _).mono ?_
      rintro e w5 ⟨rfl, hb5⟩
      have hst : Step M w2 w5 := (((Step.refl HW2.out.memo).alloc _).trans (HS3.out.trans HS4.out)).trans (Step.of_below hb5 HS4.out.memo)
      have r0 := hst.cell K2.out (cell_not_map HW2.out.memo K2.out)
      have r1 := hst.cell K3.out (cell_not_map HW2.out.memo K3.out)
      have f0 := hst.frozen K2.out (cell_not_map HW2.out.memo K2.out) M2.out
      have f1 := hst.frozen K3.out (cell_not_map HW2.out.memo K3.out) M3.out
      have HST := Lib.hid hst
      clear hst hb5 a0 a1 a2 a3
      go_wp2_with fail
      refine bodyPost_ret (v := .tuple #[partV (Pure.fair b d o len F P) (Pure.sets b o), .int .i64 0]) (by simp [results, Try.results48, go_sem, r0, r1]) rfl ⟨?_, ?_⟩
      · rw [HCODE.out, Pure.res2_zero rfl]
      · have z1 := HSZ.out
        have z2 := HBC.out.size
        have z3 := HB2.out.size
        have z4 := HMW.out
        have hB : Below w.heap.size w w5 := below_step ((HB1.out.trans (HBC.out.mono (by omega))).trans (HB2.out.mono (by omega))) HST.out (by omega) (by omega)
        exact (hB.setCell (p := ⟨w.heap.size + 1 + 1, 0, none⟩) (by simp; omega) _).setCell (p := ⟨w.heap.size + 1 + 1, 1, none⟩) (by simp; omega) _
    · have hne : (code != 0) = true := by simpa using h0
      have H0 := Lib.hid h0
      clear h0
      go_wp2_with fail
      refine bodyPost_ret (v := .tuple #[.agg #[.int .i64 0, .int .i64 0], .int .i64 code]) (by simp [results, Try.results48, go_sem, r0, r1]) rfl ⟨?_, ?_⟩
      · rw [HCODE.out, Pure.res2_err H0.out]
      · exact ((HB1.out.trans (HBC.out.mono (by have := HSZ.out; omega))).setCell (p := ⟨w.heap.size + 1 + 1, 0, none⟩) (by simp; omega) _).setCell (p := ⟨w.heap.size + 1 + 1, 1, none⟩) (by simp; omega) _

end Go.Proofs.Yteckpbghmhelpaa
