/-
  The contracts of the closure that looks for a rick's place, and of slices.BinarySearchFunc at ricks.
-/
import Derived.Test.YtknpdjbokgenpabWCopy
namespace Go.Proofs.Ytknpdjbokgenpab
open Go.RowKit

theorem seek_any (i e' d t : Int) (w : World) : Calls Try.prog 16 #[rickV i e' d, .int .i64 t] w fun e w' => e = .returned (.int .i64 (Pure.cmp i t)) ∧ Below w.heap.size w w' := by
  go_enter Try.func16, Try.ntmps16
  go_wp2_with fail
  refine (compare_any _ _ _).mono ?_
  rintro e w' ⟨rfl, rfl⟩
  go_wp2_with fail
  go_ret
  exact ⟨rfl, below_new _ _⟩
set_option maxHeartbeats 2000000 in
set_option maxRecDepth 100000 in
theorem search_any (a : Option Addr) (len cap : Nat) (F : Nat → Int) (t : Int) (hl : len ≤ 40) (hsort : ∀ m n, m < n → n < len → F (m * 3) < F (n * 3)) (w : World) (h : NumsAt w a (len * 3) F) :
    Calls Try.prog 15 #[.slice a len cap, .int .i64 t, .func (.func 16) #[] #[]] w fun e w' =>
      ∃ (i : Nat) (b : Bool), e = .returned (.tuple #[.int .i64 i, .bool b]) ∧ i ≤ len ∧ (∀ m, m < i → F (m * 3) < t) ∧ (∀ m, i ≤ m → m < len → t ≤ F (m * 3)) ∧ Below w.heap.size w w' := by
  have HN := Lib.hid h
  have HS := Lib.hid hsort
  clear h hsort
  go_enter Try.func15, Try.ntmps15
  go_wp2_with fail
  go_loopw [9, 10] (fun i j wr => ∃ x y : Nat, x ≤ y ∧ y ≤ len ∧ i = .int .i64 x ∧ j = .int .i64 y ∧ (∀ m, m < x → F (m * 3) < t) ∧ (∀ m, y ≤ m → m < len → t ≤ F (m * 3)) ∧ Below w.heap.size w wr) (fun i j _ => (intOf j).toNat - (intOf i).toNat)
  case atStart => exact ⟨0, len, by omega, by omega, rfl, rfl, fun m hm => by omega, fun m hm hm2 => by omega, Below.refl _ _⟩
  case round =>
    obtain ⟨x, y, hxy, hyl, rfl, rfl, q1, q2, hb⟩ := hrel
    have HQ := Lib.hid (And.intro q1 q2)
    have HB := Lib.hid hb
    clear q1 q2 hb
    by_cases hlt : x < y
    · obtain ⟨z, hz⟩ : ∃ z : Nat, z = (x + y) / 2 := ⟨_, rfl⟩
      have hz1 : x ≤ z := by omega
      have hz2 : z < y := by omega
      have HZ := Lib.hid hz
      have e1 : IntKind.u64.wrap ((x : Int) + y) = (x : Int) + y := by unfold IntKind.wrap; simp [IntKind.bits, IntKind.signed]; omega
      have e2 : ((x : Int) + y) / 2 = z := by omega
      clear hz
      obtain ⟨b, off, h9, _⟩ := HN.out (z * 3) (by omega)
      subst h9
      have c0 := (HN.out.below HB.out).at (show z * 3 < len * 3 by omega)
      have c1 := nums_row (HN.out.below HB.out) (show z * 3 + 1 < len * 3 by omega)
      have c2 := nums_row (HN.out.below HB.out) (show z * 3 + 2 < len * 3 by omega)
      go_wp2_with fail
      refine (seek_any _ _ _ _ _).mono ?_
      rintro e u ⟨rfl, hb⟩
      have HB2 := Lib.hid (below_thn HB.out hb)
      clear hb c0 c1 c2
      by_cases hc : F (z * 3) < t
      · have hcm : Pure.cmp (F (z * 3)) t = -1 := by unfold Pure.cmp; rw [if_pos hc]
        rw [hcm]
        have HC := Lib.hid hc
        clear hcm hc
        go_wp2_with fail
        go_roundw
        case rel => exact ⟨z + 1, y, by omega, hyl, by go_num, rfl, fun m hm => by
          by_cases e : m = z
          · subst e; exact HC.out
          · have := HS.out m z (by omega) (by omega); have := HC.out; omega, HQ.out.2, HB2.out⟩
        case measure => simp [intOf]; omega
      · have hcm : (Pure.cmp (F (z * 3)) t < 0) = False := by
          unfold Pure.cmp
          rw [if_neg hc]
          split <;> simp
        obtain ⟨cv, hcv⟩ : ∃ v, Pure.cmp (F (z * 3)) t = v := ⟨_, rfl⟩
        rw [hcv] at hcm ⊢
        have hcn : ¬ cv < 0 := by rw [hcm]; simp
        have HC := Lib.hid hc
        clear hcm hc hcv
        go_wp2_with fail
        go_roundw
        case rel => exact ⟨x, z, hz1, by omega, rfl, rfl, HQ.out.1, fun m hm hm2 => by
          have hc := HC.out
          by_cases e : m = z
          · subst e; omega
          · have := HS.out z m (by omega) (by omega); omega, HB2.out⟩
        case measure => simp [intOf]; omega
    · obtain rfl : x = y := by omega
      by_cases hx : x < len
      · have hxl : (x : Int) < len := by omega
        obtain ⟨b, off, h9, _⟩ := HN.out (x * 3) (by omega)
        subst h9
        have c0 := (HN.out.below HB.out).at (show x * 3 < len * 3 by omega)
        have c1 := nums_row (HN.out.below HB.out) (show x * 3 + 1 < len * 3 by omega)
        have c2 := nums_row (HN.out.below HB.out) (show x * 3 + 2 < len * 3 by omega)
        go_wp2_with fail
        refine (seek_any _ _ _ _ _).mono ?_
        rintro e u ⟨rfl, hb⟩
        have HB2 := Lib.hid (below_thn HB.out hb)
        clear hb c0 c1 c2
        obtain ⟨cv, hcv⟩ : ∃ v, Pure.cmp (F (x * 3)) t = v := ⟨_, rfl⟩
        rw [hcv]
        clear hcv
        go_wp2_with fail
        refine bodyPost_ret (v := .tuple #[.int .i64 x, .bool (cv == 0)]) (by simp [results, Try.results15, go_sem]) rfl ⟨x, _, rfl, by omega, HQ.out.1, HQ.out.2, HB2.out⟩
      · have hxl : ¬ (x : Int) < len := by omega
        go_wp2_with fail
        refine bodyPost_ret (v := .tuple #[.int .i64 x, .bool false]) (by simp [results, Try.results15, go_sem]) rfl ?_
        exact ⟨x, .inl rfl, by omega, HQ.out.1, HQ.out.2, HB.out⟩

end Go.Proofs.Ytknpdjbokgenpab
