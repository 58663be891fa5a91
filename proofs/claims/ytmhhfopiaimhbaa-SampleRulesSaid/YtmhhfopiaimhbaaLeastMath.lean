/-
  Plain mathematics: of all rules that are good the first one opens the fewest bags; one that opens all bags is good for any risks.
-/
import Derived.Test.YtmhhfopiaimhbaaMoreMath
import Derived.Test.YtmhhfopiaimhbaaLeast
namespace Go.Proofs.Ytmhhfopiaimhbaa
namespace Pure

/-- Rules in their order: fewer bags first, then those that accept fewer. -/
def ahead (x y : Int × Int) : Prop := x.1 < y.1 ∨ (x.1 = y.1 ∧ x.2 < y.2)
theorem row_order (o : Int) : (rowOf o).Pairwise ahead := by
  unfold rowOf
  rw [List.pairwise_map]
  exact (ints_rising (o.toNat + 1)).imp (fun h => .inr ⟨rfl, h⟩)
theorem rules_order (b : Nat) : (rulesL b).Pairwise ahead := by
  unfold rulesL
  rw [List.pairwise_flatMap]
  refine ⟨fun o _ => row_order o, (ints_rising (b + 1)).imp fun h x hx y hy => ?_⟩
  unfold rowOf at hx hy
  obtain ⟨a, _, rfl⟩ := List.mem_map.1 hx
  obtain ⟨c, _, rfl⟩ := List.mem_map.1 hy
  exact .inl h
theorem mem_rules {b : Nat} {x y : Int} (h0 : 0 ≤ x) (h1 : x ≤ b) (h2 : 0 ≤ y) (h3 : y ≤ x) : (x, y) ∈ rulesL b := by
  unfold rulesL
  rw [List.mem_flatMap]
  refine ⟨x, mem_ints.2 ⟨h0, by omega⟩, ?_⟩
  unfold rowOf
  rw [List.mem_map]
  exact ⟨y, mem_ints.2 ⟨h2, by omega⟩, rfl⟩
/-- The first of a list in its order is ahead of each other one that is as it is asked for. -/
theorem first_ahead {P : Int × Int → Bool} {r x : Int × Int} : ∀ {l : List (Int × Int)}, l.Pairwise ahead → l.find? P = Option.some r → x ∈ l → P x = true → x = r ∨ ahead r x
  | [], _, h, _, _ => by cases h
  | y :: l, ho, h, hx, hp => by
    obtain ⟨h1, h2⟩ := List.pairwise_cons.1 ho
    rw [List.find?_cons] at h
    cases e : P y with
    | true =>
      rw [e] at h
      obtain rfl : y = r := by simpa using h
      rcases List.mem_cons.1 hx with e2 | e2
      · exact .inl e2
      · exact .inr (h1 x e2)
    | false =>
      rw [e] at h
      rcases List.mem_cons.1 hx with rfl | e2
      · rw [e] at hp; cases hp
      · exact first_ahead h2 h e2 hp
theorem fewTo_none {b d o : Int} : ∀ {n : Nat}, (∀ j : Nat, j < n → ways b d o j = 0) → fewTo b d o n = 0
  | 0, _ => rfl
  | n + 1, h => by rw [fewTo_succ, fewTo_none (fun j hj => h j (by omega)), h n (by omega)]; rfl
/-- All bags, of which at most so many as are good are dirty: such a rule accepts good cargoes, and no bad ones. -/
theorem all_good {b good bad p q r s : Int} (h0 : 0 ≤ good) (h1 : good < bad) (h2 : bad ≤ b) (hp : 0 ≤ p) (hr : 0 ≤ r) : okRule b good bad p q r s (b, good) = true := by
  have hb : sets b b = 1 := by rw [sets_some (by omega) (Int.le_refl _), ch_self]; rfl
  have hbad : few b bad b good = 0 := by
    rw [few_eq h0 (by omega)]
    refine fewTo_none fun j hj => ?_
    unfold ways
    rw [sets_none (n := b - bad) (k := b - j) (.inr (by omega))]
    simp
  have hgood : few b good b good = 1 := by
    have e1 := fewTo_all (b := b) (d := good) (o := b) h0 (by omega) (by omega)
    rw [hb] at e1
    rw [few_eq h0 (by omega)]
    have e2 : ∀ n : Nat, (good + 1).toNat + n ≤ (b + 1).toNat → fewTo b good b ((good + 1).toNat + n) = fewTo b good b (good + 1).toNat := by
      intro n
      induction n with
      | zero => intro _; rfl
      | succ n ih =>
        intro h
        rw [← Nat.add_assoc, fewTo_succ, ih (by omega)]
        have e : ways b good b (((good + 1).toNat + n : Nat) : Int) = 0 := by
          unfold ways
          rw [sets_none (n := good) (.inr (by omega))]
          simp
        omega
    have e3 := e2 ((b + 1).toNat - (good + 1).toNat) (by omega)
    rw [show (good + 1).toNat + ((b + 1).toNat - (good + 1).toNat) = (b + 1).toNat by omega] at e3
    omega
  unfold okRule sellerOk buyerOk
  rw [hb, hbad, hgood]
  simp only [Bool.and_eq_true, decide_eq_true_eq]
  omega
/-- The rule that is told. -/
theorem least_some {b : Nat} {good bad p q r s : Int} (h0 : 0 ≤ good) (h1 : good < bad) (h2 : bad ≤ b) (hp : 0 ≤ p) (hr : 0 ≤ r) :
    okRule b good bad p q r s (least b good bad p q r s) = true ∧ (0 ≤ (least b good bad p q r s).1 ∧ (least b good bad p q r s).1 ≤ b ∧ 0 ≤ (least b good bad p q r s).2 ∧ (least b good bad p q r s).2 ≤ (least b good bad p q r s).1) ∧
    ∀ x y : Int, 0 ≤ x → x ≤ (least b good bad p q r s).1 → 0 ≤ y → y ≤ x → okRule b good bad p q r s (x, y) = true → x = (least b good bad p q r s).1 ∧ (least b good bad p q r s).2 ≤ y := by
  cases e : (rulesL b).find? (okRule b good bad p q r s) with
  | none =>
    have h3 := List.find?_eq_none.1 e _ (mem_rules (b := b) (x := b) (y := good) (by omega) (Int.le_refl _) h0 (by omega))
    rw [all_good h0 h1 h2 hp hr] at h3
    exact absurd rfl h3
  | some z =>
    have hz : least b good bad p q r s = z := by unfold least; rw [e]; rfl
    rw [hz]
    refine ⟨List.find?_some e, rulesL_in (List.mem_of_find?_eq_some e), fun x y a1 a2 a3 a4 a5 => ?_⟩
    have hin := rulesL_in (List.mem_of_find?_eq_some e)
    rcases first_ahead (rules_order b) e (mem_rules a1 (by omega) a3 a4) a5 with rfl | h4 | ⟨h4, h5⟩
    · exact ⟨rfl, Int.le_refl _⟩
    · dsimp only at h4; omega
    · dsimp only at h4 h5; omega
theorem firstL_none4 : firstL [0, 0, 0, 0] = 0 := rfl
theorem firstL_none5 : firstL [0, 0, 0, 0, 0] = 0 := rfl
end Pure
end Go.Proofs.Ytmhhfopiaimhbaa
