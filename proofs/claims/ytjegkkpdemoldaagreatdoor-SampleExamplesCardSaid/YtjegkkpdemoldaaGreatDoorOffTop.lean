/-
  The contracts of the reference's Terms, and of off and the reference's off.
  The contract of the reference's Terms.
  The contracts of Off, and of the reference's Off.
-/
import Derived.Test.YtjegkkpdemoldaaGreatDoorTerms
import Derived.Deep.QuietTactic

namespace Go.Proofs.YtjegkkpdemoldaaGreatDoor
open Go.RowKit

set_option maxHeartbeats 2000000 in
set_option maxRecDepth 100000 in
/-- **off**. -/
theorem off_any (a : Option Addr) (len cap : Nat) (F P : Nat → Int) (o f : Int) (hok : Pure.okTerms len F P = true) (ho0 : 0 ≤ o) (ho : o ≤ 36) (hf0 : 0 ≤ f) (hf : f ≤ o) (w : World) (ht : TermsAt w a len F P) :
    Calls Tryz.prog 54 #[.slice a len cap, .agg #[.int .i64 o, .int .i64 f]] w fun e w' => e = .returned (.int .i64 (Pure.off len F P o f)) ∧ Below w.heap.size w w' := by
  have HT := Lib.hid ht
  have hok2 : len ≤ 5 ∧ ∀ j, j < len → Pure.fits F P j := by unfold Pure.okTerms at hok; simpa using hok
  obtain ⟨h5, hfit⟩ := hok2
  have HF := Lib.hid hfit
  clear ht hok hfit
  by_cases hz : o = 0 ∧ f = 0
  · obtain ⟨rfl, rfl⟩ := hz
    go_enter Tryz.func54, Tryz.ntmps54
    go_wp2_with fail
    go_ret
    exact ⟨ret_int (by unfold Pure.off; simp), (Below.refl _ _).alloc (Nat.le_refl _) _⟩
  · have ho1 : o ≠ 0 := by omega
    have hne : (o == 0) = false := by simpa using ho1
    have HZ : Hid (Pure.off len F P o f = Pure.offTo F P o f len) := Lib.hid (by unfold Pure.off; rw [if_neg hz])
    have hB0 : Below w.heap.size w (w.alloc (.cells #[.int .i64 o, .int .i64 f] 37)) := (Below.refl _ _).alloc (Nat.le_refl _) _
    have HB0 := Lib.hid hB0
    clear hB0 hz ho1
    go_enter Tryz.func54, Tryz.ntmps54
    go_wp2_with fail
    go_loopw [5, 13] (fun p i wr => ∃ k : Nat, k ≤ len ∧ i = .int .i64 k ∧ p = .int .i64 (Pure.offTo F P o f k) ∧ Below w.heap.size w wr ∧ wr.cell? ⟨w.heap.size, 0, none⟩ = some (.int .i64 o) ∧ wr.cell? ⟨w.heap.size, 1, none⟩ = some (.int .i64 f)) (fun _ i _ => len - (intOf i).toNat)
    case atStart => exact ⟨0, Nat.zero_le _, rfl, rfl, HB0.out, cells_top _ _ _ rfl 0, cells_top _ _ _ rfl 1⟩
    case round =>
      obtain ⟨k, hk, rfl, rfl, hB, c0, c1⟩ := hrel
      by_cases hk1 : k < len
      · obtain ⟨b, off, rfl, g0, g1⟩ := HT.out k hk1
        have e0 := below_cell hB g0
        have e1 := below_cell hB g1
        obtain ⟨p1, p2, p3, p4, _⟩ := HF.out k hk1
        obtain ⟨m1, m2⟩ := Pure.mul_span (by omega : 0 ≤ F k) p2 ho0 ho
        obtain ⟨W3, hW3⟩ : ∃ W3, wr.alloc (.cells #[.int .i64 (F k), .int .i64 (P k)] 73) = W3 := ⟨_, rfl⟩
        have hB3 : Below wr.heap.size wr W3 := by rw [← hW3]; exact (Below.refl _ _).alloc (Nat.le_refl _) _
        have t0 : W3.cell? ⟨wr.heap.size, 0, none⟩ = some (.int .i64 (F k)) := by rw [← hW3]; exact cells_top _ _ _ rfl 0
        have t1 : W3.cell? ⟨wr.heap.size, 1, none⟩ = some (.int .i64 (P k)) := by rw [← hW3]; exact cells_top _ _ _ rfl 1
        have d0 := below_cell hB3 c0
        have d1 := below_cell hB3 c1
        have HB3 : Hid (Below w.heap.size w W3) := Lib.hid (hB.trans (hB3.mono hB.size))
        by_cases hy : F k * o ≤ f * 100
        · have HY := Lib.hid (Pure.offTo_yes (P := P) hy)
          clear hB hB3 g0 g1
          go_wp2_with fail
          go_roundw
          case rel => exact ⟨k + 1, by omega, by go_num, by rw [HY.out], HB3.out, d0, d1⟩
          case measure => simp [intOf]; omega
        · have HY := Lib.hid (Pure.offTo_no (P := P) hy)
          have hy1 : f * 100 < F k * o := by omega
          clear hB hB3 g0 g1 hy
          go_wp2_with fail
          go_roundw
          case rel => exact ⟨k + 1, by omega, by go_num, by rw [HY.out], HB3.out, d0, d1⟩
          case measure => simp [intOf]; omega
      · obtain rfl : k = len := by omega
        go_wp2_with fail
        go_ret
        exact ⟨ret_int (by rw [HZ.out]), hB⟩

end Go.Proofs.YtjegkkpdemoldaaGreatDoor

namespace Go.Proofs.YtjegkkpdemoldaaGreatDoor
open Go.RowKit

end Go.Proofs.YtjegkkpdemoldaaGreatDoor

namespace Go.Proofs.YtjegkkpdemoldaaGreatDoor
open Go.RowKit Go.Shelf

namespace Pure
/-- The first of two codes that is an error. -/
def first2 (a b : Int) : Int := ([a, b].find? (· != 0)).getD 0
theorem first2_zero {a b : Int} (h : first2 a b = 0) : a = 0 ∧ b = 0 := by
  unfold first2 at h
  by_cases ha : a = 0
  · by_cases hb : b = 0
    · exact ⟨ha, hb⟩
    · simp [ha, hb] at h
  · simp [ha] at h
theorem first2_true {a b : Bool} (x y : Int) (ha : a = true) (hb : b = true) : first2 (err a x) (err b y) = 0 := by subst ha hb; rfl
theorem first2_1 {b : Bool} {x : Int} (y : Int) (hx : x ≠ 0) : first2 (err false x) (err b y) = x := by unfold first2 err; simp [hx]
theorem first2_2 {y : Int} (x : Int) (hy : y ≠ 0) : first2 (err true x) (err false y) = y := by unfold first2 err; simp [hy]
end Pure

theorem firstError2 (a b : Int) (s cap : Nat) (w : World) (h0 : w.cell? ⟨s, 0, none⟩ = some (.int .i64 a)) (h1 : w.cell? ⟨s, 1, none⟩ = some (.int .i64 b)) :
    Calls Tryz.prog 32 #[.slice (some ⟨s, 0, none⟩) 2 cap] w fun e w' => e = .returned (.int .i64 (Pure.first2 a b)) ∧ Below w.heap.size w w' :=
  firstError_any s 2 cap [a, b] rfl (by omega) w (World.block_lt_of_cell? w _ h0) (fun j hj => by
    have : j = 0 ∨ j = 1 := by omega
    rcases this with rfl | rfl
    · exact h0
    · exact h1)

set_option maxHeartbeats 2000000 in
set_option maxRecDepth 100000 in
/-- **Off**. -/
theorem offTop_any (a : Option Addr) (len cap : Nat) (F P : Nat → Int) (o f : Int) (hl : len ≤ 9223372036854775807) (w : World) (ht : TermsAt w a len F P) :
    Calls Tryz.prog 21 #[.slice a len cap, .agg #[.int .i64 o, .int .i64 f]] w fun e w' =>
      e = .returned (Pure.resI (Pure.first2 (Pure.err (Pure.okTerms len F P) 14) (Pure.err (Pure.okDraw 36 o f) 11)) (Pure.off len F P o f)) ∧ Below w.heap.size w w' := by
  have HT := Lib.hid ht
  clear ht
  go_enter Tryz.func21, Tryz.ntmps21
  go_upto_region 1 with fail
  obtain ⟨W1, hW1⟩ : ∃ W1, w.alloc (.cells #[.int .i64 o, .int .i64 f] 37) = W1 := ⟨_, rfl⟩
  have HB1 : Hid (Below w.heap.size w W1) := by rw [← hW1]; exact Lib.hid ((Below.refl _ _).alloc (Nat.le_refl _) _)
  have HSZ : Hid (W1.heap.size = w.heap.size + 1) := by rw [← hW1]; exact Lib.hid (by simp)
  have g : ∀ j v, (#[Value.int .i64 o, .int .i64 f])[j]? = some v → W1.cell? ⟨w.heap.size, j, none⟩ = some v := by rw [← hW1]; intro j v h; exact (cells_top _ _ _ (by simp) j).trans h
  rw [hW1]
  clear hW1
  have HT1 : Hid (TermsAt W1 a len F P) := Lib.hid (HT.out.below HB1.out)
  have HK0 : Hid (W1.drew.cell? ⟨w.heap.size, 0, none⟩ = some (.int .i64 o) ∧ W1.drew.cell? ⟨w.heap.size, 1, none⟩ = some (.int .i64 f) ∧ Below W1.heap.size W1 W1.drew) :=
    Lib.hid ⟨g 0 _ rfl, g 1 _ rfl, (Below.refl _ _).drew⟩
  have HKT : Hid (∀ u : World, (u.cell? ⟨w.heap.size, 0, none⟩ = some (.int .i64 o) ∧ u.cell? ⟨w.heap.size, 1, none⟩ = some (.int .i64 f) ∧ Below W1.heap.size W1 u) → TermsAt u a len F P) :=
    Lib.hid (fun u h => HT1.out.below h.2.2)
  have HKS : Hid (∀ u v : World, (u.cell? ⟨w.heap.size, 0, none⟩ = some (.int .i64 o) ∧ u.cell? ⟨w.heap.size, 1, none⟩ = some (.int .i64 f) ∧ Below W1.heap.size W1 u) → Below u.heap.size u v →
      (v.cell? ⟨w.heap.size, 0, none⟩ = some (.int .i64 o) ∧ v.cell? ⟨w.heap.size, 1, none⟩ = some (.int .i64 f) ∧ Below W1.heap.size W1 v)) :=
    Lib.hid (fun u v h k => ⟨below_cell k h.1, below_cell k h.2.1, h.2.2.trans (k.mono h.2.2.size)⟩)
  have HG := Lib.hid g
  clear g
  go_cut [6] (fun s wx => s = .int .i64 (Pure.first2 (Pure.err (Pure.okTerms len F P) 14) (Pure.err (Pure.okDraw 36 o f) 11)) ∧ Below W1.heap.size W1 wx)
  case first =>
    go_region_held3 (fun w' => w'.cell? ⟨w.heap.size, 0, none⟩ = some (.int .i64 o) ∧ w'.cell? ⟨w.heap.size, 1, none⟩ = some (.int .i64 f) ∧ Below W1.heap.size W1 w')
      (first | exact HK0.out | exact HKS.out _ _ (by assumption) (by assumption) | exact HKS.out _ _ (by assumption) ((Below.refl _ _).alloc (Nat.le_refl _) _))
      (first
        | (go_at_call 52; refine (checkTerms_any a len cap F P hl _ (HKT.out _ (by assumption))).mono ?_; rintro e w' ⟨rfl, hb⟩)
        | (go_at_call 58; refine (checkDraw_any _ _ _ _).mono ?_; rintro e w' ⟨rfl, hb⟩)
        | (go_at_call 32; refine (firstError2 (Pure.err (Pure.okTerms len F P) 14) (Pure.err (Pure.okDraw 36 o f) 11) _ _ _ (cells_top _ _ _ rfl 0) (cells_top _ _ _ rfl 1)).mono ?_; rintro e w' ⟨rfl, hb⟩))
    all_goals (go_wp2_with fail; go_meet; refine ⟨rfl, ?_⟩; exact And.right (And.right (by assumption)))
  case rest =>
    obtain ⟨rfl, hBc⟩ := hcut
    obtain ⟨code, hcode⟩ : ∃ c, Pure.first2 (Pure.err (Pure.okTerms len F P) 14) (Pure.err (Pure.okDraw 36 o f) 11) = c := ⟨_, rfl⟩
    rw [hcode]
    have HBC := Lib.hid hBc
    have HCODE := Lib.hid hcode
    clear hBc hcode HK0 HKS HKT
    by_cases h0 : code = 0
    · subst h0
      obtain ⟨q1, q2⟩ := Pure.first2_zero HCODE.out
      have q1 := Pure.err_zero q1 (by decide)
      have q2 := Pure.err_zero q2 (by decide)
      have Q1 := Lib.hid q1
      clear q1
      unfold Pure.okDraw at q2
      simp only [decide_eq_true_eq] at q2
      obtain ⟨o1, o2, o3, o4⟩ := q2
      have c0 := below_cell HBC.out (HG.out 0 _ rfl)
      have c1 := below_cell HBC.out (HG.out 1 _ rfl)
      go_wp2_with fail
      refine (off_any a len cap F P o f Q1.out o1 o2 o3 o4 _ (HT1.out.below HBC.out)).mono ?_
      rintro e w2 ⟨rfl, hB2⟩
      have HB2 := Lib.hid hB2
      clear hB2
      go_wp2_with fail
      go_ret2
      refine ⟨by rw [HCODE.out]; rfl, ?_⟩
      have z1 := HSZ.out
      have z2 := HBC.out.size
      exact (HB1.out.trans (HBC.out.mono (by omega))).trans (HB2.out.mono (by omega))
    · have hne : (code != 0) = true := by simpa using h0
      have H0 := Lib.hid h0
      clear h0
      go_wp2_with fail
      go_ret2
      refine ⟨by rw [HCODE.out, Pure.resI_err H0.out]; rfl, ?_⟩
      exact HB1.out.trans (HBC.out.mono (by have := HSZ.out; omega))

end Go.Proofs.YtjegkkpdemoldaaGreatDoor
