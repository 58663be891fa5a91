/-
  The contract of Meet.
-/
import Derived.Test.YtiiekecohmaipaaMIter
namespace Go.Proofs.Ytiiekecohmaipaa
open Go.RowKit
attribute [local go_sem] Oper.semAt_some

theorem nums_two {w : World} {x y : Int} : NumsAt (w.alloc (.cells #[.int .i64 x, .int .i64 y] 3)) (some ⟨w.heap.size, 0, none⟩) 2 (fun j => if j = 0 then x else y) := fun j hj => by
  have h : j = 0 ∨ j = 1 := by omega
  rcases h with rfl | rfl
  · exact ⟨w.heap.size, 0, rfl, heap_cell (heap_top w (.cells #[.int .i64 x, .int .i64 y] 3) rfl) (j := 0) rfl⟩
  · exact ⟨w.heap.size, 0, rfl, heap_cell (heap_top w (.cells #[.int .i64 x, .int .i64 y] 3) rfl) (j := 1) rfl⟩
namespace Pure
def two (x y : Int) : Bool := decide ((6 ≤ x ∧ x ≤ 120) ∧ (6 ≤ y ∧ y ≤ 120))
theorem two_span (x y : Int) : inSpan 6 120 2 (fun j => if j = 0 then x else y) = two x y := by
  unfold inSpan two
  rw [decide_eq_decide]
  constructor
  · intro h
    exact ⟨by simpa using h 0 (by omega), by simpa using h 1 (by omega)⟩
  · rintro ⟨h1, h2⟩ j hj
    have h : j = 0 ∨ j = 1 := by omega
    rcases h with rfl | rfl
    · simpa using h1
    · simpa using h2
/-- After how many turns two wheels meet again. -/
def IsTurns (a b N : Nat) : Prop := 1 ≤ N ∧ (N * a) % b = 0 ∧ ∀ n, 1 ≤ n → n < N → (n * a) % b ≠ 0
theorem IsTurns.same {a b N M : Nat} (h : IsTurns a b N) (g : IsTurns a b M) : N = M := by
  rcases Nat.lt_trichotomy N M with e | e | e
  · exact absurd h.2.1 (g.2.2 N h.1 e)
  · exact e
  · exact absurd g.2.1 (h.2.2 M g.1 e)
/-- What Meet tells. -/
def MeetIs (x y t o e : Int) : Prop := (two x y = false ∧ t = 0 ∧ o = 0 ∧ e = 2) ∨ (two x y = true ∧ ∃ a b N : Nat, x = a ∧ y = b ∧ IsTurns a b N ∧ t = N ∧ o = ((N * a / b : Nat) : Int) ∧ e = 0)
theorem MeetIs.same {x y t o e t' o' e' : Int} (h : MeetIs x y t o e) (g : MeetIs x y t' o' e') : t = t' ∧ o = o' ∧ e = e' := by
  rcases h with ⟨h1, rfl, rfl, rfl⟩ | ⟨h1, a, b, N, rfl, rfl, h2, rfl, rfl, rfl⟩
  · rcases g with ⟨_, rfl, rfl, rfl⟩ | ⟨g1, _⟩
    · exact ⟨rfl, rfl, rfl⟩
    · rw [h1] at g1; cases g1
  · rcases g with ⟨g1, _⟩ | ⟨_, a', b', N', ea, eb, g2, rfl, rfl, rfl⟩
    · rw [h1] at g1; cases g1
    · obtain rfl : a = a' := by omega
      obtain rfl : b = b' := by omega
      obtain rfl := h2.same g2
      exact ⟨rfl, rfl, rfl⟩
theorem turns_of {a b M : Nat} (ha : 1 ≤ a) (h1 : 1 ≤ M) (h2 : M % a = 0) (h3 : M % b = 0) (h4 : ∀ n, 1 ≤ n → n < M → ¬ (n % a = 0 ∧ n % b = 0)) : IsTurns a b (M / a) ∧ M = M / a * a := by
  have hd : M / a * a = M := by have := Nat.div_add_mod M a; rw [h2, Nat.mul_comm] at this; omega
  refine ⟨⟨?_, by rw [hd]; exact h3, fun n g1 g2 g3 => h4 (n * a) (Nat.mul_pos g1 ha) ?_ ⟨Nat.mul_mod_left n a, g3⟩⟩, hd.symm⟩
  · apply Decidable.byContradiction
    intro h
    rw [show M / a = 0 from Nat.eq_zero_of_not_pos h] at hd
    omega
  · have h := Nat.mul_lt_mul_of_pos_right g2 ha
    omega
end Pure

/-- What the iterator wants kept: its own boxes. -/
def keepM (Ba Bb : Nat) (i : Nat) (o : Obj) : Prop := (∃ arr, o = .cells arr 43) ∨ i = Ba ∨ i = Bb
theorem keepM_other {W : World} {g Ba Bb : Nat} {arr : Array Value} {t : TypeId} (h : W.heap[g]? = some (.cells arr t)) (ht : t ≠ 43) (h1 : g ≠ Ba) (h2 : g ≠ Bb) : ∀ o, W.heap[g]? = some o → ¬ (o.isCells = false ∨ keepM Ba Bb g o) := fun o ho hk => by
  rw [h] at ho
  cases ho
  rcases hk with hk | ⟨a, hk⟩ | hk | hk
  · cases hk
  · simp only [Obj.cells.injEq] at hk
    exact ht hk.2.1
  · exact h1 hk
  · exact h2 hk

set_option maxRecDepth 100000 in
set_option maxHeartbeats 4000000 in
theorem meet_any (x y : Int) (w : World) :
    Calls Try.prog 4 #[.int .i64 x, .int .i64 y] w fun e w' => ∃ t o er, e = .returned (.tuple #[.int .i64 t, .int .i64 o, .int .i64 er]) ∧ Pure.MeetIs x y t o er ∧ Below w.heap.size w w' := by
  refine (callsIn_wide (n := 5)).1 ?_
  refine callsIn_of_wp_marks Try.func4 rfl trivial ?_ rfl
  simp only [Try.ntmps4, List.size_toArray, List.length_cons, List.length_nil, Nat.reduceAdd, Nat.reduceSub, Array.replicate_succ, Array.replicate_zero, List.push_toArray, List.append_toArray, List.nil_append, List.cons_append]
  gi_wp2_with fail
  refine ⟨trivial, (callsIn_wide.2 (toothed_any _ 2 2 _ (by omega) _ nums_two)).mono ?_⟩
  rw [Pure.two_span]
  rintro e W1 ⟨rfl, hb⟩
  have HB1 := Lib.hid ((below_new w (.cells #[.int .i64 x, .int .i64 y] 3)).trans (hb.mono (by simp)))
  clear hb
  by_cases ht : Pure.two x y = true
  rotate_left
  · have hf : Pure.two x y = false := by simpa using ht
    rw [hf]
    clear ht
    gi_wp2_with fail
    refine ⟨.tuple #[.int .i64 0, .int .i64 0, .int .i64 2], ?_, ?_⟩
    · simp [results, Try.f4, go_sem]
    · exact ⟨_, _, _, rfl, .inl ⟨hf, rfl, rfl, rfl⟩, HB1.out⟩
  · rw [ht]
    have ht2 := ht
    unfold Pure.two at ht2
    simp only [decide_eq_true_eq] at ht2
    obtain ⟨a, rfl⟩ : ∃ a : Nat, x = a := ⟨x.toNat, by omega⟩
    obtain ⟨b, rfl⟩ : ∃ b : Nat, y = b := ⟨y.toNat, by omega⟩
    have ha : 6 ≤ a ∧ a ≤ 120 := by omega
    have hb : 6 ≤ b ∧ b ≤ 120 := by omega
    have HT := Lib.hid ht
    have HAB := Lib.hid (And.intro ha hb)
    clear ht ht2 ha hb
    gi_wp2_with fail
    refine ⟨trivial, (callsIn_wide.2 (meetings_any _ _ _)).mono ?_⟩
    rintro e W2 ⟨rfl, hW2⟩
    gi_wp2_with fail
    obtain ⟨V, hV⟩ : ∃ V, ((W1.alloc (.cells #[.int .i64 0] 3)).alloc (.cells #[.int .i64 (a : Int)] 3)).alloc (.cells #[.int .i64 (b : Int)] 3) = V := ⟨_, rfl⟩
    have hbv : Below W1.heap.size W1 V := by rw [← hV]; exact ((below_new _ _).alloc (by simp) _).alloc (by simp; omega) _
    have hvs : V.heap.size = W1.heap.size + 3 := by rw [← hV]; simp
    have hc : V.heap[W1.heap.size]? = some (.cells #[.int .i64 0] 3) := by rw [← hV]; exact heap_up (heap_up (heap_top _ _ rfl) _) _
    have hm : MeshAt V (W1.heap.size + 1) (W1.heap.size + 1 + 1) a b := ⟨by rw [← hV]; exact heap_up (heap_top _ _ (by simp)) _, by rw [← hV]; exact heap_top _ _ (by simp)⟩
    rw [hV]
    have HBV := Lib.hid (below_thn HB1.out hbv)
    have HVS := Lib.hid hvs
    have HC := Lib.hid hc
    have HM := Lib.hid hm
    have hi0 : (fun (pre : List Nat) (W : World) => W.heap[W1.heap.size]? = some (.cells #[.int .i64 (pre.length : Int)] 3) ∧ Below w.heap.size w W) [] V := ⟨hc, HBV.out⟩
    have HI0 := Lib.hid hi0
    have HSW : Hid (w.heap.size ≤ W1.heap.size) := Lib.hid HB1.out.size
    clear hV hbv hvs hc hm hi0 hW2 W2
    refine wp_range_state (n := 5) (by omega) (gf := 15) (lb := #[.pointer (some ⟨W1.heap.size + 1, 0, none⟩), .pointer (some ⟨W1.heap.size + 1 + 1, 0, none⟩)]) rfl (enters_of Try.func15 (by kernel_rfl) rfl)
      (mesh_seq 3 (keepM (W1.heap.size + 1) (W1.heap.size + 1 + 1)) V (W1.heap.size + 1) (W1.heap.size + 1 + 1) a b (fun i arr => .inl ⟨arr, rfl⟩) (fun _ => .inr (.inl rfl)) (fun _ => .inr (.inr rfl)) HM.out HAB.out.1 HAB.out.2) (Below.refl _ _) (fun _ => rfl)
      (fun (pre : List Nat) (W : World) => W.heap[W1.heap.size]? = some (.cells #[.int .i64 (pre.length : Int)] 3) ∧ Below w.heap.size w W) (fun _ _ _ => False)
      (fun s A B h _ g => ⟨(h.block _ (by have := HVS.out; omega)).trans g.1, g.2.trans (h.mono (by have := HVS.out; have := HSW.out; omega))⟩) (fun _ _ _ _ _ _ h => h) HI0.out
      (fun x a' _ => a' = { tmps := #[.int .i64 a, .int .i64 b, undef, undef, .int .i64 0, .int .i64 0, .int .i64 0, .pointer (some ⟨W1.heap.size, 0, none⟩), .int .i64 a, .int .i64 b, .slice (some ⟨w.heap.size, 0, none⟩) 2 2, .bool true, .bool false, .int .i64 a, .int .i64 b, .func (.func 15) #[] #[.pointer (some ⟨W1.heap.size + 1, 0, none⟩), .pointer (some ⟨W1.heap.size + 1 + 1, 0, none⟩)], meshV ((x % a : Nat) : Int) ((x % b : Nat) : Int), undef, undef, undef, undef, undef, undef, undef, undef], defers := [] }) ?hAx ?assign ?body ?done ?stop
    case hAx => exact fun x a' s X Y row h hg hr => h
    case assign =>
      intro l pre x W K hi hsz hK
      gi_wp2
      exact hK _ _ (KeptR.refl _ _) hi rfl
    case body =>
      rintro l pre x a' W hsz ⟨hi, hbw⟩ rfl hlt -
      have hab : a * b ≤ 120 * 120 := Nat.mul_le_mul HAB.out.1.2 HAB.out.2.2
      have hw1 : IntKind.i64.wrap ((pre.length : Int) + 1) = (pre.length : Int) + 1 := IntWalk.i64_in _ (by omega)
      have HBW := Lib.hid hbw
      have HI := Lib.hid hi
      have c0 := heap_cell HI.out (j := 0) rfl
      have f0 := heap_frozen HI.out 0
      clear hi hbw hsz hlt hab
      gi_wp2_with fail
      exact ⟨KeptR.set _ (keepM_other HI.out (by decide) (by dsimp only; omega) (by dsimp only; omega)) _, by rw [List.length_append]; exact heap_set HI.out 0 _, HBW.out.setCell HSW.out _⟩
    case done =>
      rintro D ys W hD ⟨M, rfl, h1, h2, h3, h4⟩ ⟨hi, hbw⟩ hK
      have hMb : M ≤ a * b := by
        apply Decidable.byContradiction
        intro h
        exact h4 (a * b) (Nat.mul_pos (by have := HAB.out; omega) (by have := HAB.out; omega)) (by omega) ⟨Nat.mul_mod_right a b, Nat.mul_mod_left a b⟩
      have hMm : M ≤ 120 * 120 := Nat.le_trans hMb (Nat.mul_le_mul HAB.out.1.2 HAB.out.2.2)
      have HMM := Lib.hid hMm
      clear hMb hMm
      obtain ⟨hN, hM⟩ := Pure.turns_of (by have := HAB.out; omega) h1 h2 h3 h4
      have hax := HAB.out
      have ha0 : ¬ a = 0 := by omega
      have hb0 : ¬ b = 0 := by omega
      rw [List.length_range] at hi
      have HI := Lib.hid hi
      have HBW := Lib.hid hbw
      have HD := Lib.hid hD
      have HK := Lib.hid hK
      have HN := Lib.hid (And.intro hN hM)
      have c0 := heap_cell HI.out (j := 0) rfl
      clear hi hbw hD hK hN hM h1 h2 h3 h4
      gi_wp2_with fail
      gi_region
      gi_wp2_with fail
      refine ⟨by simp, .inl ⟨_, _, rfl, run_takeDeferred (show W.drew.heap[D]? = _ from HK.out), ?_⟩⟩
      have e1 : wrap64 ((M : Int) / (a : Int)) = ((M / a : Nat) : Int) := by
        have h1 : M / a ≤ M := Nat.div_le_self _ _
        rw [show (M : Int) / (a : Int) = ((M / a : Nat) : Int) from rfl]
        obtain ⟨q, hq⟩ : ∃ q, M / a = q := ⟨_, rfl⟩
        rw [hq] at h1 ⊢
        have := HMM.out
        unfold wrap64
        omega
      have e2 : wrap64 ((M : Int) / (b : Int)) = ((M / b : Nat) : Int) := by
        have h1 : M / b ≤ M := Nat.div_le_self _ _
        rw [show (M : Int) / (b : Int) = ((M / b : Nat) : Int) from rfl]
        obtain ⟨q, hq⟩ : ∃ q, M / b = q := ⟨_, rfl⟩
        rw [hq] at h1 ⊢
        have := HMM.out
        unfold wrap64
        omega
      refine ⟨.tuple #[.int .i64 ((M / a : Nat) : Int), .int .i64 ((M / b : Nat) : Int), .int .i64 0], ?_, ?_⟩
      · rw [e1, e2]
        simp [results, Try.f4, go_sem]
      · exact ⟨_, _, _, rfl, .inr ⟨HT.out, a, b, M / a, rfl, rfl, HN.out.1, rfl, by rw [← HN.out.2], rfl⟩, (HBW.out.drew).trans ((below_put W.drew (Nat.le_refl D) (.deferred none)).mono (by have h1 := HD.out; have h2 := HVS.out; have h3 := HSW.out; omega))⟩
    case stop =>
      rintro D c pre W hD hS h hK
      exact h.elim
end Go.Proofs.Ytiiekecohmaipaa
