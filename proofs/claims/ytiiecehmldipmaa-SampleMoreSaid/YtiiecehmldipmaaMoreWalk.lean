/-
  SampleMore: the walk of the law, put together of its ways.
-/
import Derived.Test.YtiiecehmldipmaaMore
namespace Go.Proofs.Ytiiecehmldipmaa
open Go.RowKit Go.Shelf

/-- The chance that none of one bag more is dirty, held against the chance that none is. -/
theorem more_next {b d o S T M an ad : Int} (b0 : 0 ≤ b) (b2 : b ≤ 36) (d0 : 0 ≤ d) (d1 : d ≤ b) (o0 : 0 ≤ o) (hS : Pure.sets b o = S) (hT : Pure.sets b (o + 1) = T) (hM : Pure.few b d o 0 = M) (han : M / Pure.gcd M S = an) (had : S / Pure.gcd M S = ad) (s0 : 0 < S) (s1 : S ≤ 68719476736) (M0 : 0 ≤ M) (M1 : M ≤ S) (ho : o < b) :
    ∃ K : Int, Pure.few b d (o + 1) 0 = K ∧ 0 ≤ K ∧ K ≤ T ∧ 0 < T ∧ T ≤ 68719476736 ∧ (∀ w : World, Calls Try.prog 36 #[.agg #[.int .i64 (K / Pure.gcd K T), .int .i64 (T / Pure.gcd K T)], .agg #[.int .i64 an, .int .i64 ad]] w fun e w' => e = .returned (.bool true) ∧ Below w.heap.size w w') := by
  obtain ⟨K, hK⟩ : ∃ K, Pure.few b d (o + 1) 0 = K := ⟨_, rfl⟩
  have t0 : 0 < T := by rw [← hT]; exact Pure.sets_pos (by omega) (by omega)
  have t1 : T ≤ 68719476736 := by rw [← hT]; exact Pure.sets_le b2
  have k0 : 0 ≤ K := by rw [← hK]; exact Pure.few_nonneg
  have k1 : K ≤ T := by rw [← hK, ← hT]; exact Pure.few_le_all d0 d1 (by omega) (Int.le_refl _) (by omega)
  have hle : K * S ≤ M * T := by
    have h := Pure.none_less d0 d1 o0 ho
    rw [← Pure.few_zero b0 b2 d0 d1 (by omega) (by omega), ← Pure.few_zero b0 b2 d0 d1 o0 (by omega), hK, hM, hS, hT] at h
    exact h
  have hl := Pure.le_low k0 t0 M0 s0 hle
  have n1 := Pure.low_num k0 t0
  have n2 := Pure.low_den k0 t0
  have n3 := Pure.low_num M0 s0
  have n4 := Pure.low_den M0 s0
  rw [han] at n3 hl
  rw [had] at n4 hl
  refine ⟨K, hK, k0, k1, t0, t1, fun w => ?_⟩
  exact atMostYes (Lib.hid (by unfold Pure.leP; rw [decide_eq_true_eq]; exact hl)) (by omega) (by omega) (by omega) (by omega) (by omega) (by omega) (by omega) (by omega) w

/-- The walk of SampleMore. -/
theorem more_walk (b lo hi o f x num den : Int) (x0 : 0 ≤ x) (x1 : x ≤ 255) (num0 : 0 ≤ num) (num1 : num ≤ 65535) (den0 : 0 ≤ den) (den1 : den ≤ 65535) (w : World) :
    Calls Try.prog 5 #[cargoV b lo hi, .agg #[.int .i64 o, .int .i64 f], .int .u8 x, .int .u16 num, .int .u16 den] w fun e w' => e = .returned (.bool true) ∧ Below w.heap.size w w' := by
  cases hok : Pure.okCargo b lo hi with
  | false => exact more_bad b lo hi o f x num den (Lib.hid hok) w
  | true =>
    cases hdk : Pure.okDraw b o f with
    | false => exact more_off b lo hi o f x num den (Lib.hid hok) (Lib.hid hdk) w
    | true =>
      have hk := hok
      unfold Pure.okCargo at hk
      rw [decide_eq_true_eq] at hk
      obtain ⟨b1, b2, l0, l1, hb⟩ := hk
      have hk := hdk
      unfold Pure.okDraw at hk
      rw [decide_eq_true_eq] at hk
      obtain ⟨o0, o1, f0, f1⟩ := hk
      obtain ⟨bn, rfl⟩ : ∃ bn : Nat, b = bn := ⟨b.toNat, by omega⟩
      obtain ⟨d, hd⟩ : ∃ d, lo + x % (hi - lo + 1) = d := ⟨_, rfl⟩
      have e0 : 0 ≤ x % (hi - lo + 1) := Int.emod_nonneg _ (by omega)
      have e1 : x % (hi - lo + 1) < hi - lo + 1 := Int.emod_lt_of_pos _ (by omega)
      obtain ⟨q, hq⟩ : ∃ q, 1 + den % 1000 = q := ⟨_, rfl⟩
      have q0 : 1 ≤ q := by omega
      have q1 : q ≤ 1000 := by omega
      obtain ⟨p, hp⟩ : ∃ p, num % (q + 1) = p := ⟨_, rfl⟩
      have p0 : 0 ≤ p := by rw [← hp]; exact Int.emod_nonneg _ (by omega)
      have p1 : p < q + 1 := by rw [← hp]; exact Int.emod_lt_of_pos _ (by omega)
      have d0 : lo ≤ d := by omega
      have d1 : d ≤ hi := by omega
      obtain ⟨S, hS⟩ : ∃ S, Pure.sets bn o = S := ⟨_, rfl⟩
      obtain ⟨T, hT⟩ : ∃ T, Pure.sets bn (o + 1) = T := ⟨_, rfl⟩
      obtain ⟨M, hM⟩ : ∃ M, Pure.few bn d o 0 = M := ⟨_, rfl⟩
      have s0 : 0 < S := by rw [← hS]; exact Pure.sets_pos o0 o1
      have s1 : S ≤ 68719476736 := by rw [← hS]; exact Pure.sets_le b2
      have M0 : 0 ≤ M := by rw [← hM]; exact Pure.few_nonneg
      have M1 : M ≤ S := by rw [← hM, ← hS]; exact Pure.few_le_all (by omega) (by omega) o0 (Int.le_refl _) o0
      obtain ⟨an, han⟩ : ∃ an, M / Pure.gcd M S = an := ⟨_, rfl⟩
      obtain ⟨ad, had⟩ : ∃ ad, S / Pure.gcd M S = ad := ⟨_, rfl⟩
      have hm3 : partV M S = .agg #[.int .i64 an, .int .i64 ad] := by rw [← han, ← had]
      have hm1 : partV (Pure.few bn d o 0) (Pure.sets bn o) = .agg #[.int .i64 an, .int .i64 ad] := by rw [hM, hS]; exact hm3
      obtain ⟨K, hK⟩ : ∃ K, Pure.few bn d (o + 1) 0 = K := ⟨_, rfl⟩
      have hm2 : o < bn → Hid (partV (Pure.few bn d (o + 1) 0) (Pure.sets bn (o + 1)) = .agg #[.int .i64 (K / Pure.gcd K T), .int .i64 (T / Pure.gcd K T)]) ∧ ∃ K' : Int, 0 ≤ K' ∧ K' ≤ T ∧ 0 < T ∧ T ≤ 68719476736 ∧ Hid (partV K' T = .agg #[.int .i64 (K / Pure.gcd K T), .int .i64 (T / Pure.gcd K T)]) ∧ True ∧ (∀ w : World, Calls Try.prog 36 #[.agg #[.int .i64 (K / Pure.gcd K T), .int .i64 (T / Pure.gcd K T)], .agg #[.int .i64 an, .int .i64 ad]] w fun e w' => e = .returned (.bool true) ∧ Below w.heap.size w w') := fun ho => by
        obtain ⟨K2, h1, h2, h3, h4, h5, h6⟩ := more_next (by omega) b2 (by omega) (by omega) o0 hS hT hM han had s0 s1 M0 M1 ho
        rw [hK] at h1
        subst h1
        exact ⟨Lib.hid (by rw [hK, hT]), K, h2, h3, h4, h5, Lib.hid rfl, trivial, h6⟩
      have hpp : Pure.okParts 1 (fun _ => p) (fun _ => q) = true := Pure.okParts_true (fun _ _ => ⟨q0, q1, p0, by omega⟩)
      have hpe : Pure.okParts 0 (fun _ => 0) (fun _ => 0) = true := Pure.okParts_true (fun _ h => absurd h (Nat.not_lt_zero _))
      have hE : Pure.canE bn lo hi o f = Pure.err (Pure.some bn lo hi o f) 8 := by
        unfold Pure.canE
        rw [hpe, Pure.afterE_val hok hdk, Int.toNat_natCast]
      have hA : Pure.askE bn lo hi o f p q = Pure.err (Pure.some bn lo hi o f) 8 := by
        unfold Pure.askE
        rw [hpp, Pure.afterE_val hok hdk, Int.toNat_natCast]
      by_cases hs : max lo f ≤ min hi (bn - o + f)
      · have hsm := (Pure.some_iff (b := bn) (o := o) l0 hb f0 f1).2 hs
        rw [hsm] at hE hA
        have hsv := Pure.span_vals (b := bn) (o := o) l0 hb f0 f1 hs
        refine more_yes bn lo hi o f x num den d p q (max lo f) (min hi (bn - o + f)) _ _ S T an ad _ _ M (Pure.okAsk bn o f p q (max lo f) (min hi (bn - o + f))) true (Lib.hid hok) (Lib.hid hdk) b2 l0 l1 (by omega) hb o0 o1 f0 f1 x0 x1 num0 num1 den0 den1
          (Lib.hid hd) (Lib.hid hq) (Lib.hid hp) d0 d1 p0 (by omega) q0 q1 (Lib.hid hS) s0 s1 (Lib.hid hT) (Lib.hid ?_) (Lib.hid ?_) (Lib.hid hE) (Lib.hid rfl) (Lib.hid rfl) (Lib.hid rfl) (Lib.hid ?_) (Lib.hid ?_) M0 M1 (Lib.hid hm1) (Lib.hid hm3) (Lib.hid hm2) w
        · rw [Pure.pick_zero hE, Int.toNat_natCast]
          exact hsv.1
        · rw [Pure.pick_zero hE, Int.toNat_natCast]
          exact hsv.2
        · intro n
          unfold Pure.okAsk
          rw [hS, Bool.true_and]
        · intro k sv hk hbest
          rw [Pure.boundE_zero hA, Pure.boundV_zero hA, Int.toNat_natCast]
          rcases Pure.bound_best l0 hb f0 f1 hk hbest with ⟨h1, h2⟩ | ⟨h1, h2⟩
          · rw [h2]
            exact .inl ⟨h1, rfl, rfl⟩
          · rw [h2]
            exact .inr ⟨h1, rfl, rfl⟩
      · have hsm : Pure.some bn lo hi o f = false := by
          cases e : Pure.some bn lo hi o f with
          | false => rfl
          | true => exact absurd ((Pure.some_iff l0 hb f0 f1).1 e) hs
        rw [hsm] at hE hA
        have hne : Pure.askE bn lo hi o f p q ≠ 0 := by rw [hA]; decide
        refine more_no bn lo hi o f x num den d p q _ _ _ _ S T an ad _ _ M (fun _ => false) false (Lib.hid hok) (Lib.hid hdk) b2 l0 l1 (by omega) hb o0 o1 f0 f1 x0 x1 num0 num1 den0 den1
          (Lib.hid hd) (Lib.hid hq) (Lib.hid hp) d0 d1 p0 (by omega) q0 q1 (Lib.hid hS) s0 s1 (Lib.hid hT) (Lib.hid rfl) (Lib.hid rfl) (Lib.hid hE) (Lib.hid rfl) (Lib.hid rfl) (Lib.hid rfl) (Lib.hid ?_) (Lib.hid ?_) M0 M1 (Lib.hid hm1) (Lib.hid hm3) (Lib.hid hm2) w
        · intro n
          rfl
        · intro k sv hk hbest
          rw [Pure.boundE_err hne, Pure.boundV_err hne, hA]
          rcases hbest with ⟨h1, _⟩ | ⟨h1, _⟩
          · exact ⟨h1, rfl, rfl⟩
          · cases h1

end Go.Proofs.Ytiiecehmldipmaa
