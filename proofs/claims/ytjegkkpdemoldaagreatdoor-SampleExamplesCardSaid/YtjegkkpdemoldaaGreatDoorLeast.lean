/-
  The contract of Least.
-/
import Derived.Test.YtjegkkpdemoldaaGreatDoorFirst
namespace Go.Proofs.YtjegkkpdemoldaaGreatDoor
open Go.RowKit Go.Shelf

namespace Pure
/-- The first of some codes that is an error. -/
def firstL (l : List Int) : Int := (l.find? (· != 0)).getD 0
theorem firstL_zero {l : List Int} (h : firstL l = 0) : ∀ x ∈ l, x = 0 := by
  unfold firstL at h
  cases hf : l.find? (· != 0) with
  | none =>
    intro x hx
    have := List.find?_eq_none.1 hf x hx
    simpa using this
  | some y =>
    rw [hf] at h
    have h1 := List.find?_some hf
    have h2 : y = 0 := h
    subst h2
    cases h1
/-- Two numbers, by their index. -/
def two (x y : Int) (j : Nat) : Int := if j = 0 then x else y
theorem okParts_two {p q r s : Int} (h : okParts 2 (two p r) (two q s) = true) : (0 ≤ p ∧ p ≤ q ∧ 1 ≤ q ∧ q ≤ 1000) ∧ (0 ≤ r ∧ r ≤ s ∧ 1 ≤ s ∧ s ≤ 1000) := by
  unfold okParts at h
  have h1 : okPart p q := of_decide_eq_true h 0 (by decide)
  have h2 : okPart r s := of_decide_eq_true h 1 (by decide)
  unfold okPart at h1 h2
  omega
def leastE (b lo hi good bad p q r s : Int) : Int := firstL [err (okCargo b lo hi) 10, err (okIn lo hi good && okIn lo hi bad) 2, err (okParts 2 (two p r) (two q s)) 12, err (decide (good < bad)) 2]
def least (b : Nat) (good bad p q r s : Int) : Int × Int := ((rulesL b).find? (okRule b good bad p q r s)).getD (0, 0)
theorem rulesL_in {b : Nat} {x : Int × Int} (h : x ∈ rulesL b) : 0 ≤ x.1 ∧ x.1 ≤ b ∧ 0 ≤ x.2 ∧ x.2 ≤ x.1 := by
  unfold rulesL at h
  obtain ⟨o, ho, hx⟩ := List.mem_flatMap.1 h
  unfold rowOf at hx
  obtain ⟨a, ha, rfl⟩ := List.mem_map.1 hx
  have h1 := mem_ints.1 ho
  have h2 := mem_ints.1 ha
  dsimp only
  omega
end Pure

theorem terms_two {w : World} {t : Nat} {p q r s : Int} (h0 : w.cell? ⟨t, 0, none⟩ = some (.int .i64 p)) (h1 : w.cell? ⟨t, 1, none⟩ = some (.int .i64 q)) (h2 : w.cell? ⟨t, 2, none⟩ = some (.int .i64 r)) (h3 : w.cell? ⟨t, 3, none⟩ = some (.int .i64 s)) :
    TermsAt w (some ⟨t, 0, none⟩) 2 (Pure.two p r) (Pure.two q s) := fun j hj => by
  have hj2 : j = 0 ∨ j = 1 := by omega
  rcases hj2 with rfl | rfl
  · exact ⟨_, _, rfl, h0, h1⟩
  · exact ⟨_, _, rfl, h2, h3⟩
theorem firstErr4 (a b c d : Int) (s cap : Nat) (w : World) (h0 : w.cell? ⟨s, 0, none⟩ = some (.int .i64 a)) (h1 : w.cell? ⟨s, 1, none⟩ = some (.int .i64 b)) (h2 : w.cell? ⟨s, 2, none⟩ = some (.int .i64 c)) (h3 : w.cell? ⟨s, 3, none⟩ = some (.int .i64 d)) :
    Calls Tryz.prog 32 #[.slice (some ⟨s, 0, none⟩) 4 cap] w fun e w' => e = .returned (.int .i64 (Pure.firstL [a, b, c, d])) ∧ Below w.heap.size w w' :=
  firstError_any s 4 cap [a, b, c, d] rfl (by omega) w (World.block_lt_of_cell? w _ h0) (fun j hj => by
    have : j = 0 ∨ j = 1 ∨ j = 2 ∨ j = 3 := by omega
    rcases this with rfl | rfl | rfl | rfl
    · exact h0
    · exact h1
    · exact h2
    · exact h3)
/-- **firstGood**. -/
theorem firstGood_any {b M T C Bs Bb gf : Nat} (lo hi good bad p q r s : Int) (lb : Array Value) (xs : List (Int × Int)) (hb : b ≤ 36) (hg0 : 0 ≤ good) (hg : good ≤ b) (hd0 : 0 ≤ bad) (hd : bad ≤ b)
    (hpq : 0 ≤ p ∧ p ≤ q ∧ 1 ≤ q ∧ q ≤ 1000) (hrs : 0 ≤ r ∧ r ≤ s ∧ 1 ≤ s ∧ s ≤ 1000) (hxs : ∀ x ∈ xs, 0 ≤ x.1 ∧ x.1 ≤ b ∧ 0 ≤ x.2 ∧ x.2 ≤ x.1) (w : World) (hw : Cnt w M T C)
    (hBs : w.heap[Bs]? = some (.cells #[.int .i64 p, .int .i64 q] 31)) (hBb : w.heap[Bb]? = some (.cells #[.int .i64 r, .int .i64 s] 31))
    (eg : ∀ args w, (callFunc gf args).run Tryz.prog w = .ok (.enter gf args) w)
    (hseq : ∀ W1, Below w.heap.size w W1 → w.heap.size + 4 ≤ W1.heap.size → SeqRuns Fence.wide (0 + 5) Tryz.prog gf lb encRule (KeepAll (W1.heap.size + 2) M (w.heap.size + 1 + 1) (w.heap.size + 1 + 1 + 1)) (fun _ _ => False) xs W1) :
    Calls Tryz.prog 49 #[holdV b lo hi T C, .func (.func gf) #[] lb, sidesV good bad Bs Bb] w fun e w' =>
      e = .returned (.tuple #[.agg #[.int .i64 ((xs.find? (Pure.okRule b good bad p q r s)).getD (0, 0)).1, .int .i64 ((xs.find? (Pure.okRule b good bad p q r s)).getD (0, 0)).2], .bool (xs.any (Pure.okRule b good bad p q r s))]) ∧ Step M w w' :=
  callsIn_wide.1 (firstGood_in 0 b M T C Bs Bb gf lo hi good bad p q r s lb xs hb hg0 hg hd0 hd hpq.1 hpq.2.1 hpq.2.2.1 hpq.2.2.2 hrs.1 hrs.2.1 hrs.2.2.1 hrs.2.2.2 hxs w hw hBs hBb eg hseq)

/-- Each block of cells is as it was. -/
def KeepCells (w w' : World) : Prop := ∀ (b : Nat) (arr : Array Value) (t : TypeId), w.heap[b]? = some (.cells arr t) → w'.heap[b]? = some (.cells arr t)
theorem heap_below {w w' : World} {i : Nat} {b : Obj} (h : w.heap[i]? = some b) (k : Below w.heap.size w w') : w'.heap[i]? = some b := (k.block _ (Array.getElem?_eq_some_iff.1 h).1).trans h
/-- A rule's box of zeros, made anew. -/
def BoxZ (n i : Nat) (w : World) : Prop := n ≤ i ∧ w.heap[i]? = some (.cells #[.int .i64 0, .int .i64 0] 47)
theorem boxZ_new {n : Nat} {w w' : World} (h : n ≤ w.heap.size) (k : Below (w.alloc (.cells #[.int .i64 0, .int .i64 0] 47)).heap.size (w.alloc (.cells #[.int .i64 0, .int .i64 0] 47)) w') : BoxZ n w.heap.size w' := ⟨h, heap_below (heap_top _ _ rfl) k⟩
theorem boxZ_keep {n : Nat} {w w' : World} (h : n ≤ w.heap.size) (k : KeepCells (w.alloc (.cells #[.int .i64 0, .int .i64 0] 47)) w') : BoxZ n w.heap.size w' := ⟨h, k _ _ _ (heap_top _ _ rfl)⟩
theorem boxZ_drew {n : Nat} {w w' : World} (h : n ≤ w.heap.size) (k : Below (w.alloc (.cells #[.int .i64 0, .int .i64 0] 47)).drew.heap.size (w.alloc (.cells #[.int .i64 0, .int .i64 0] 47)).drew w') : BoxZ n w.heap.size w' := ⟨h, heap_below (w := (w.alloc (.cells #[.int .i64 0, .int .i64 0] 47)).drew) (heap_top w _ rfl) k⟩
theorem BoxZ.up {n i : Nat} {w w' : World} (h : BoxZ n i w) (k : Below w.heap.size w w') : BoxZ n i w' := ⟨h.1, heap_below h.2 k⟩
theorem BoxZ.keep {n i : Nat} {w w' : World} (h : BoxZ n i w) (k : KeepCells w w') : BoxZ n i w' := ⟨h.1, k _ _ _ h.2⟩
theorem BoxZ.c0 {n i : Nat} {w : World} (h : BoxZ n i w) : w.cell? ⟨i, 0, none⟩ = some (.int .i64 0) := heap_cell h.2 rfl
theorem BoxZ.c1 {n i : Nat} {w : World} (h : BoxZ n i w) : w.cell? ⟨i, 1, none⟩ = some (.int .i64 0) := heap_cell h.2 rfl
theorem below_on {w u v : World} (h : Below w.heap.size w u) (k : Below u.heap.size u v) : Below w.heap.size w v := h.trans (k.mono h.size)
theorem below_onStep {M : Nat} {w u v : World} (h : Below w.heap.size w u) (s : Step M u v) (hM : w.heap.size ≤ M) : Below w.heap.size w v := below_step h s h.size hM
/-- A rule's box holds x and y, another zeros, and all below is as it was. -/
def EndL (rb i : Nat) (x y : Int) (w V : World) : Prop := V.cell? ⟨i, 0, none⟩ = some (.int .i64 x) ∧ V.cell? ⟨i, 1, none⟩ = some (.int .i64 y) ∧ V.heap[rb]? = some (.cells #[.int .i64 0, .int .i64 0] 47) ∧ Below w.heap.size w V
theorem EndL.ex {rb i : Nat} {x y : Int} {w V : World} (h : EndL rb i x y w V) : ∃ U, V = U ∧ EndL rb i x y w U := ⟨V, rfl, h⟩
theorem endL_alloc {rb : Nat} {x y : Int} {w u : World} (h : u.heap[rb]? = some (.cells #[.int .i64 0, .int .i64 0] 47) ∧ Below w.heap.size w u) : EndL rb u.heap.size x y w (u.alloc (.cells #[.int .i64 x, .int .i64 y] 47)) :=
  ⟨heap_cell (heap_top u _ rfl) rfl, heap_cell (heap_top u _ rfl) rfl, heap_up h.1 _, h.2.alloc h.2.size _⟩
theorem endL_set {n i rb : Nat} {x y : Int} {w u : World} (h : u.heap[rb]? = some (.cells #[.int .i64 0, .int .i64 0] 47) ∧ Below w.heap.size w u) (hz : BoxZ n i u) (hr : rb < n) (hw : w.heap.size ≤ n) : EndL rb i x y w ((u.setCell ⟨i, 0, none⟩ (.int .i64 x)).setCell ⟨i, 1, none⟩ (.int .i64 y)) := by
  have h1 := heap_set (heap_set hz.2 0 (.int .i64 x)) 1 (.int .i64 y)
  have hn := hz.1
  have hne : i ≠ rb := by omega
  refine ⟨heap_cell h1 rfl, heap_cell h1 rfl, ?_, (h.2.setCell (p := ⟨i, 0, none⟩) (by dsimp only; omega) _).setCell (p := ⟨i, 1, none⟩) (by dsimp only; omega) _⟩
  simp only [World.setCell, Array.getElem?_modify, hne, if_false]
  exact h.1
/-- rules' value and its box. -/
theorem rules_fact (b lo hi : Int) (T C : Nat) (w : World) : Calls Tryz.prog 63 #[holdV b lo hi T C] w fun e w' =>
    ∃ B, e = .returned (.func (.func 85) #[] #[.pointer (some ⟨B, 0, none⟩)]) ∧ w'.heap[B]? = some (.cells #[.int .i64 b, .int .i64 lo, .int .i64 hi, setsV T C] 82) ∧ Below w.heap.size w w' :=
  (rules_any b lo hi T C w).mono (by rintro e w' ⟨rfl, rfl⟩; exact ⟨_, rfl, heap_top _ _ rfl, (Below.refl _ _).alloc (Nat.le_refl _) _⟩)
/-- sides' value and its boxes. -/
theorem sides_fact (good bad p q r s : Int) (w : World) :
    Calls Tryz.prog 51 #[.int .i64 good, .int .i64 bad, .agg #[.int .i64 p, .int .i64 q], .agg #[.int .i64 r, .int .i64 s]] w fun e w' =>
      ∃ Bs Bb, e = .returned (sidesV good bad Bs Bb) ∧ w'.heap[Bs]? = some (.cells #[.int .i64 p, .int .i64 q] 31) ∧ w'.heap[Bb]? = some (.cells #[.int .i64 r, .int .i64 s] 31) ∧ Below w.heap.size w w' :=
  (sides_any good bad p q r s w).mono (by rintro e w' ⟨rfl, h1, h2, h3⟩; exact ⟨_, _, rfl, h1, h2, h3⟩)
/-- **firstGood over a cargo's rules**. -/
theorem firstGood_rules {b M T C Bs Bb B : Nat} (lo hi good bad p q r s : Int) (hb : b ≤ 36) (hg0 : 0 ≤ good) (hg : good ≤ b) (hd0 : 0 ≤ bad) (hd : bad ≤ b)
    (hpq : 0 ≤ p ∧ p ≤ q ∧ 1 ≤ q ∧ q ≤ 1000) (hrs : 0 ≤ r ∧ r ≤ s ∧ 1 ≤ s ∧ s ≤ 1000) (w : World) (hw : Cnt w M T C)
    (hBs : w.heap[Bs]? = some (.cells #[.int .i64 p, .int .i64 q] 31)) (hBb : w.heap[Bb]? = some (.cells #[.int .i64 r, .int .i64 s] 31))
    (hB : w.heap[B]? = some (.cells #[.int .i64 b, .int .i64 lo, .int .i64 hi, setsV T C] 82)) :
    Calls Tryz.prog 49 #[holdV b lo hi T C, .func (.func 85) #[] #[.pointer (some ⟨B, 0, none⟩)], sidesV good bad Bs Bb] w fun e w' =>
      e = .returned (.tuple #[.agg #[.int .i64 (Pure.least b good bad p q r s).1, .int .i64 (Pure.least b good bad p q r s).2], .bool ((Pure.rulesL b).any (Pure.okRule b good bad p q r s))]) ∧ Step M w w' ∧ KeepCells w w' := by
  have hlt := (Array.getElem?_eq_some_iff.1 hB).1
  refine Calls.mono (R := fun e w' => e = .returned (.tuple #[.agg #[.int .i64 (Pure.least b good bad p q r s).1, .int .i64 (Pure.least b good bad p q r s).2], .bool ((Pure.rulesL b).any (Pure.okRule b good bad p q r s))]) ∧ Step M w w') ?_ (fun e w' h => ⟨h.1, h.2, fun i arr t hi => h.2.heap hi (cells_not_memo hw.memo hi)⟩)
  exact firstGood_any (M := M) lo hi good bad p q r s _ (Pure.rulesL b) hb hg0 hg hd0 hd hpq hrs (fun x hx => Pure.rulesL_in hx) w hw hBs hBb (enters_of Tryz.func85 (by kernel_rfl) rfl)
    (fun V hV hVs => rules_runs 0 b M T C B _ _ lo hi hb V (by omega) (by omega) (by omega) (by omega) ((hV.block _ hlt).trans hB))

theorem Cnt.below {w w' : World} {M T C : Nat} (h : Cnt w M T C) (hb : Below w.heap.size w w') : Cnt w' M T C := ⟨below_cell hb h.told, below_cell hb h.self, h.memo.kept (hb.block M h.memo.lt)⟩

set_option maxHeartbeats 8000000 in
set_option maxRecDepth 100000 in
/-- **Least**. -/
theorem least_top (b lo hi good bad p q r s : Int) (w : World) :
    Calls Tryz.prog 27 #[cargoV b lo hi, .int .i64 good, .int .i64 bad, .agg #[.int .i64 p, .int .i64 q], .agg #[.int .i64 r, .int .i64 s]] w fun e w' =>
      e = .returned (.tuple #[.agg #[.int .i64 (Pure.pick (Pure.leastE b lo hi good bad p q r s) (Pure.least b.toNat good bad p q r s).1), .int .i64 (Pure.pick (Pure.leastE b lo hi good bad p q r s) (Pure.least b.toNat good bad p q r s).2)], .int .i64 (Pure.leastE b lo hi good bad p q r s)]) ∧ Below w.heap.size w w' := by
  go_enter Tryz.func27, Tryz.ntmps27
  go_upto_region 1 with fail
  obtain ⟨W1, hW1⟩ : ∃ W1, (((w.alloc (.cells #[.int .i64 b, .int .i64 lo, .int .i64 hi] 28)).alloc (.cells #[.int .i64 p, .int .i64 q] 31)).alloc (.cells #[.int .i64 r, .int .i64 s] 31)).alloc (.cells #[.int .i64 0, .int .i64 0] 47) = W1 := ⟨_, rfl⟩
  have HB1 : Hid (Below w.heap.size w W1) := by rw [← hW1]; exact Lib.hid (((((Below.refl _ _).alloc (Nat.le_refl _) _).alloc (by simp) _).alloc (by simp; omega) _).alloc (by simp; omega) _)
  have HSZ : Hid (W1.heap.size = w.heap.size + 4) := by rw [← hW1]; exact Lib.hid (by simp)
  have hc1 : W1.heap[w.heap.size]? = some (.cells #[.int .i64 b, .int .i64 lo, .int .i64 hi] 28) := by rw [← hW1]; exact heap_up (heap_up (heap_up (heap_top _ _ rfl) _) _) _
  have hp1 : W1.heap[w.heap.size + 1]? = some (.cells #[.int .i64 p, .int .i64 q] 31) := by rw [← hW1]; exact heap_up (heap_up (heap_top _ _ (by simp)) _) _
  have hr1 : W1.heap[w.heap.size + 1 + 1]? = some (.cells #[.int .i64 r, .int .i64 s] 31) := by rw [← hW1]; exact heap_up (heap_top _ _ (by simp)) _
  have hz1 : W1.heap[w.heap.size + 1 + 1 + 1]? = some (.cells #[.int .i64 0, .int .i64 0] 47) := by rw [← hW1]; exact heap_top _ _ (by simp)
  rw [hW1]
  clear hW1
  have HC1 := Lib.hid hc1
  have HP1 := Lib.hid hp1
  have HR1 := Lib.hid hr1
  have HZ1 := Lib.hid hz1
  clear hc1 hp1 hr1 hz1
  have HK0 : Hid ((W1.drew.cell? ⟨w.heap.size, 0, none⟩ = some (.int .i64 b) ∧ W1.drew.cell? ⟨w.heap.size, 1, none⟩ = some (.int .i64 lo) ∧ W1.drew.cell? ⟨w.heap.size, 2, none⟩ = some (.int .i64 hi) ∧ W1.drew.cell? ⟨w.heap.size + 1, 0, none⟩ = some (.int .i64 p) ∧ W1.drew.cell? ⟨w.heap.size + 1, 1, none⟩ = some (.int .i64 q) ∧ W1.drew.cell? ⟨w.heap.size + 1 + 1, 0, none⟩ = some (.int .i64 r) ∧ W1.drew.cell? ⟨w.heap.size + 1 + 1, 1, none⟩ = some (.int .i64 s)) ∧ Below W1.heap.size W1 W1.drew) :=
    Lib.hid ⟨⟨heap_cell HC1.out (j := 0) rfl, heap_cell HC1.out (j := 1) rfl, heap_cell HC1.out (j := 2) rfl, heap_cell HP1.out (j := 0) rfl, heap_cell HP1.out (j := 1) rfl, heap_cell HR1.out (j := 0) rfl, heap_cell HR1.out (j := 1) rfl⟩, (Below.refl _ _).drew⟩
  have HKS : Hid (∀ u v : World, ((u.cell? ⟨w.heap.size, 0, none⟩ = some (.int .i64 b) ∧ u.cell? ⟨w.heap.size, 1, none⟩ = some (.int .i64 lo) ∧ u.cell? ⟨w.heap.size, 2, none⟩ = some (.int .i64 hi) ∧ u.cell? ⟨w.heap.size + 1, 0, none⟩ = some (.int .i64 p) ∧ u.cell? ⟨w.heap.size + 1, 1, none⟩ = some (.int .i64 q) ∧ u.cell? ⟨w.heap.size + 1 + 1, 0, none⟩ = some (.int .i64 r) ∧ u.cell? ⟨w.heap.size + 1 + 1, 1, none⟩ = some (.int .i64 s)) ∧ Below W1.heap.size W1 u) → Below u.heap.size u v → ((v.cell? ⟨w.heap.size, 0, none⟩ = some (.int .i64 b) ∧ v.cell? ⟨w.heap.size, 1, none⟩ = some (.int .i64 lo) ∧ v.cell? ⟨w.heap.size, 2, none⟩ = some (.int .i64 hi) ∧ v.cell? ⟨w.heap.size + 1, 0, none⟩ = some (.int .i64 p) ∧ v.cell? ⟨w.heap.size + 1, 1, none⟩ = some (.int .i64 q) ∧ v.cell? ⟨w.heap.size + 1 + 1, 0, none⟩ = some (.int .i64 r) ∧ v.cell? ⟨w.heap.size + 1 + 1, 1, none⟩ = some (.int .i64 s)) ∧ Below W1.heap.size W1 v)) :=
    Lib.hid (fun u v h k => ⟨⟨below_cell k h.1.1, below_cell k h.1.2.1, below_cell k h.1.2.2.1, below_cell k h.1.2.2.2.1, below_cell k h.1.2.2.2.2.1, below_cell k h.1.2.2.2.2.2.1, below_cell k h.1.2.2.2.2.2.2⟩, h.2.trans (k.mono h.2.size)⟩)
  go_cut [12] (fun v wx => v = .int .i64 (Pure.firstL [Pure.err (Pure.okCargo b lo hi) 10, Pure.err (Pure.okIn lo hi good && Pure.okIn lo hi bad) 2, Pure.err (Pure.okParts 2 (Pure.two p r) (Pure.two q s)) 12, Pure.err (decide (good < bad)) 2]) ∧ Below W1.heap.size W1 wx)
  case first =>
    go_region_held3 (fun w' => (w'.cell? ⟨w.heap.size, 0, none⟩ = some (.int .i64 b) ∧ w'.cell? ⟨w.heap.size, 1, none⟩ = some (.int .i64 lo) ∧ w'.cell? ⟨w.heap.size, 2, none⟩ = some (.int .i64 hi) ∧ w'.cell? ⟨w.heap.size + 1, 0, none⟩ = some (.int .i64 p) ∧ w'.cell? ⟨w.heap.size + 1, 1, none⟩ = some (.int .i64 q) ∧ w'.cell? ⟨w.heap.size + 1 + 1, 0, none⟩ = some (.int .i64 r) ∧ w'.cell? ⟨w.heap.size + 1 + 1, 1, none⟩ = some (.int .i64 s)) ∧ Below W1.heap.size W1 w')
      (first | assumption | exact HK0.out | exact HKS.out _ _ (by assumption) (by assumption) | exact HKS.out _ _ (by assumption) ((Below.refl _ _).alloc (Nat.le_refl _) _))
      (first
        | (go_at_call 29; refine (check_any _ _ _ _).mono ?_; rintro e w' ⟨rfl, hb⟩)
        | (go_at_call 33; refine (checkDirty2 _ _ _ good bad _ _ _ ?_ ?_).mono ?_; (focus (repeat (first | exact cells_top _ _ _ (by simp) 0 | exact cells_top_drew _ _ _ (by simp) 0 | refine cell_up ?_ _ | refine below_cell (by assumption) ?_))); (focus (repeat (first | exact cells_top _ _ _ (by simp) 1 | exact cells_top_drew _ _ _ (by simp) 1 | refine cell_up ?_ _ | refine below_cell (by assumption) ?_))); rintro e w' ⟨rfl, hb⟩)
        | (go_at_call 43; refine (checkChances_any _ 2 _ (Pure.two p r) (Pure.two q s) (by decide) _ (terms_two ?_ ?_ ?_ ?_)).mono ?_; (focus (repeat (first | exact cells_top _ _ _ (by simp) 0 | exact cells_top_drew _ _ _ (by simp) 0 | refine cell_up ?_ _ | refine below_cell (by assumption) ?_))); (focus (repeat (first | exact cells_top _ _ _ (by simp) 1 | exact cells_top_drew _ _ _ (by simp) 1 | refine cell_up ?_ _ | refine below_cell (by assumption) ?_))); (focus (repeat (first | exact cells_top _ _ _ (by simp) 2 | exact cells_top_drew _ _ _ (by simp) 2 | refine cell_up ?_ _ | refine below_cell (by assumption) ?_))); (focus (repeat (first | exact cells_top _ _ _ (by simp) 3 | exact cells_top_drew _ _ _ (by simp) 3 | refine cell_up ?_ _ | refine below_cell (by assumption) ?_))); rintro e w' ⟨rfl, hb⟩)
        | (go_at_call 45; refine (unless_any _ _ _).mono ?_; rintro e w' ⟨rfl, rfl⟩)
        | (go_at_call 32; refine (firstErr4 (Pure.err (Pure.okCargo b lo hi) 10) (Pure.err (Pure.okIn lo hi good && Pure.okIn lo hi bad) 2) (Pure.err (Pure.okParts 2 (Pure.two p r) (Pure.two q s)) 12) (Pure.err (decide (good < bad)) 2) _ _ _ (cells_top _ _ _ rfl 0) (cells_top _ _ _ rfl 1) (cells_top _ _ _ rfl 2) (cells_top _ _ _ rfl 3)).mono ?_; rintro e w' ⟨rfl, hb⟩))
    all_goals (go_wp2_with fail; go_meet; refine ⟨rfl, ?_⟩; exact And.right (by assumption))
  case rest =>
    obtain ⟨rfl, hBc⟩ := hcut
    have HLE : Hid (Pure.firstL [Pure.err (Pure.okCargo b lo hi) 10, Pure.err (Pure.okIn lo hi good && Pure.okIn lo hi bad) 2, Pure.err (Pure.okParts 2 (Pure.two p r) (Pure.two q s)) 12, Pure.err (decide (good < bad)) 2] = Pure.leastE b lo hi good bad p q r s) := Lib.hid rfl
    rw [HLE.out]
    obtain ⟨code, hcode⟩ : ∃ c, Pure.leastE b lo hi good bad p q r s = c := ⟨_, rfl⟩
    rw [hcode]
    have hz2 := (hBc.block _ (by have := HSZ.out; omega)).trans HZ1.out
    have HBC := Lib.hid hBc
    have HZ2 := Lib.hid hz2
    have HCODE := Lib.hid hcode
    clear hBc hcode HK0 HKS hz2
    by_cases h0 : code = 0
    · subst h0
      have hall := Pure.firstL_zero (HLE.out.trans HCODE.out)
      have q1 := Pure.err_zero (hall (Pure.err (Pure.okCargo b lo hi) 10) (by simp)) (by decide)
      have q2 := Pure.err_zero (hall (Pure.err (Pure.okIn lo hi good && Pure.okIn lo hi bad) 2) (by simp)) (by decide)
      have q3 := Pure.okParts_two (Pure.err_zero (hall (Pure.err (Pure.okParts 2 (Pure.two p r) (Pure.two q s)) 12) (by simp)) (by decide))
      clear hall
      unfold Pure.okCargo at q1
      unfold Pure.okIn at q2
      simp only [decide_eq_true_eq, Bool.and_eq_true] at q1 q2
      obtain ⟨b1, b2, b3, b4, b5⟩ := q1
      obtain ⟨⟨d1, d2⟩, d3, d4⟩ := q2
      obtain ⟨bn, rfl⟩ : ∃ n : Nat, b = n := ⟨b.toNat, by omega⟩
      have c0 := below_cell HBC.out (heap_cell HC1.out (j := 0) rfl)
      have c1 := below_cell HBC.out (heap_cell HC1.out (j := 1) rfl)
      have c2 := below_cell HBC.out (heap_cell HC1.out (j := 2) rfl)
      go_wp2_with (go_at_call 35; refine (work_any bn lo hi _).mono ?_; rintro e w2 ⟨M, T, C, rfl, hMw, hw2, hbw⟩; have HMW := Lib.hid hMw; have HW2 := Lib.hid hw2; have HBW := Lib.hid hbw; clear hMw hw2 hbw)
      obtain ⟨W5, hW5⟩ : ∃ W5, w2.alloc (.cells #[.int .i64 bn, .int .i64 lo, .int .i64 hi, setsV T C] 82) = W5 := ⟨_, rfl⟩
      have hB5 : Below wc.heap.size wc W5 := by rw [← hW5]; exact HBW.out.alloc HBW.out.size _
      have hC5 : Cnt W5 M T C := by rw [← hW5]; exact HW2.out.alloc _
      have hh5 : W5.heap[w2.heap.size]? = some (.cells #[.int .i64 bn, .int .i64 lo, .int .i64 hi, setsV T C] 82) := by rw [← hW5]; exact heap_top _ _ rfl
      have hp5 : W5.heap[w.heap.size + 1]? = some (.cells #[.int .i64 p, .int .i64 q] 31) := (hB5.block _ (by have := HBC.out.size; have := HSZ.out; omega)).trans ((HBC.out.block _ (by have := HSZ.out; omega)).trans HP1.out)
      have hr5 : W5.heap[w.heap.size + 1 + 1]? = some (.cells #[.int .i64 r, .int .i64 s] 31) := (hB5.block _ (by have := HBC.out.size; have := HSZ.out; omega)).trans ((HBC.out.block _ (by have := HSZ.out; omega)).trans HR1.out)
      rw [hW5]
      have hrb : W5.heap[w.heap.size + 1 + 1 + 1]? = some (.cells #[.int .i64 0, .int .i64 0] 47) := (hB5.block _ (Array.getElem?_eq_some_iff.1 HZ2.out).1).trans HZ2.out
      have HRB := Lib.hid hrb
      clear hrb
      have HB5 := Lib.hid hB5
      have HC5 := Lib.hid hC5
      have HH5 := Lib.hid hh5
      have HP5 := Lib.hid hp5
      have HR5 := Lib.hid hr5
      clear hW5 hB5 hC5 hh5 hp5 hr5 c0 c1 c2
      have HNE : Hid (w2.heap.size ≠ M ∧ w.heap.size + 1 ≠ M ∧ w.heap.size + 1 + 1 ≠ M ∧ w.heap.size + 1 + 1 + 1 ≠ M) := Lib.hid (by have h1 := HW2.out.lt.1; have h2 := HMW.out; have h3 := HBC.out.size; have h4 := HSZ.out; omega)
      have HT0 : Hid (W5.drew.cell? ⟨w2.heap.size, 0, none⟩ = some (.int .i64 bn) ∧ W5.drew.cell? ⟨w2.heap.size, 1, none⟩ = some (.int .i64 lo) ∧ W5.drew.cell? ⟨w2.heap.size, 2, none⟩ = some (.int .i64 hi) ∧ W5.drew.cell? ⟨w2.heap.size, 3, none⟩ = some (setsV T C) ∧ W5.drew.cell? ⟨w.heap.size + 1, 0, none⟩ = some (.int .i64 p) ∧ W5.drew.cell? ⟨w.heap.size + 1, 1, none⟩ = some (.int .i64 q) ∧ W5.drew.cell? ⟨w.heap.size + 1 + 1, 0, none⟩ = some (.int .i64 r) ∧ W5.drew.cell? ⟨w.heap.size + 1 + 1, 1, none⟩ = some (.int .i64 s)) := Lib.hid ⟨heap_cell HH5.out (j := 0) rfl, heap_cell HH5.out (j := 1) rfl, heap_cell HH5.out (j := 2) rfl, heap_cell HH5.out (j := 3) rfl, heap_cell HP5.out (j := 0) rfl, heap_cell HP5.out (j := 1) rfl, heap_cell HR5.out (j := 0) rfl, heap_cell HR5.out (j := 1) rfl⟩
      have HTW : Hid (W5.cell? ⟨w2.heap.size, 0, none⟩ = some (.int .i64 bn) ∧ W5.cell? ⟨w2.heap.size, 1, none⟩ = some (.int .i64 lo) ∧ W5.cell? ⟨w2.heap.size, 2, none⟩ = some (.int .i64 hi) ∧ W5.cell? ⟨w2.heap.size, 3, none⟩ = some (setsV T C) ∧ W5.cell? ⟨w.heap.size + 1, 0, none⟩ = some (.int .i64 p) ∧ W5.cell? ⟨w.heap.size + 1, 1, none⟩ = some (.int .i64 q) ∧ W5.cell? ⟨w.heap.size + 1 + 1, 0, none⟩ = some (.int .i64 r) ∧ W5.cell? ⟨w.heap.size + 1 + 1, 1, none⟩ = some (.int .i64 s)) := Lib.hid ⟨heap_cell HH5.out (j := 0) rfl, heap_cell HH5.out (j := 1) rfl, heap_cell HH5.out (j := 2) rfl, heap_cell HH5.out (j := 3) rfl, heap_cell HP5.out (j := 0) rfl, heap_cell HP5.out (j := 1) rfl, heap_cell HR5.out (j := 0) rfl, heap_cell HR5.out (j := 1) rfl⟩
      have HTS : Hid (∀ u v : World, (u.cell? ⟨w2.heap.size, 0, none⟩ = some (.int .i64 bn) ∧ u.cell? ⟨w2.heap.size, 1, none⟩ = some (.int .i64 lo) ∧ u.cell? ⟨w2.heap.size, 2, none⟩ = some (.int .i64 hi) ∧ u.cell? ⟨w2.heap.size, 3, none⟩ = some (setsV T C) ∧ u.cell? ⟨w.heap.size + 1, 0, none⟩ = some (.int .i64 p) ∧ u.cell? ⟨w.heap.size + 1, 1, none⟩ = some (.int .i64 q) ∧ u.cell? ⟨w.heap.size + 1 + 1, 0, none⟩ = some (.int .i64 r) ∧ u.cell? ⟨w.heap.size + 1 + 1, 1, none⟩ = some (.int .i64 s)) → Below u.heap.size u v → (v.cell? ⟨w2.heap.size, 0, none⟩ = some (.int .i64 bn) ∧ v.cell? ⟨w2.heap.size, 1, none⟩ = some (.int .i64 lo) ∧ v.cell? ⟨w2.heap.size, 2, none⟩ = some (.int .i64 hi) ∧ v.cell? ⟨w2.heap.size, 3, none⟩ = some (setsV T C) ∧ v.cell? ⟨w.heap.size + 1, 0, none⟩ = some (.int .i64 p) ∧ v.cell? ⟨w.heap.size + 1, 1, none⟩ = some (.int .i64 q) ∧ v.cell? ⟨w.heap.size + 1 + 1, 0, none⟩ = some (.int .i64 r) ∧ v.cell? ⟨w.heap.size + 1 + 1, 1, none⟩ = some (.int .i64 s))) :=
        Lib.hid (fun u v h k => ⟨below_cell k h.1, below_cell k h.2.1, below_cell k h.2.2.1, below_cell k h.2.2.2.1, below_cell k h.2.2.2.2.1, below_cell k h.2.2.2.2.2.1, below_cell k h.2.2.2.2.2.2.1, below_cell k h.2.2.2.2.2.2.2⟩)
      have HLT : Hid (w2.heap.size < W5.heap.size ∧ w.heap.size + 1 + 1 < W5.heap.size) := Lib.hid ⟨(Array.getElem?_eq_some_iff.1 HH5.out).1, (Array.getElem?_eq_some_iff.1 HR5.out).1⟩
      have HTD : Hid (∀ u : World, (u.cell? ⟨w2.heap.size, 0, none⟩ = some (.int .i64 bn) ∧ u.cell? ⟨w2.heap.size, 1, none⟩ = some (.int .i64 lo) ∧ u.cell? ⟨w2.heap.size, 2, none⟩ = some (.int .i64 hi) ∧ u.cell? ⟨w2.heap.size, 3, none⟩ = some (setsV T C) ∧ u.cell? ⟨w.heap.size + 1, 0, none⟩ = some (.int .i64 p) ∧ u.cell? ⟨w.heap.size + 1, 1, none⟩ = some (.int .i64 q) ∧ u.cell? ⟨w.heap.size + 1 + 1, 0, none⟩ = some (.int .i64 r) ∧ u.cell? ⟨w.heap.size + 1 + 1, 1, none⟩ = some (.int .i64 s)) → (u.drew.cell? ⟨w2.heap.size, 0, none⟩ = some (.int .i64 bn) ∧ u.drew.cell? ⟨w2.heap.size, 1, none⟩ = some (.int .i64 lo) ∧ u.drew.cell? ⟨w2.heap.size, 2, none⟩ = some (.int .i64 hi) ∧ u.drew.cell? ⟨w2.heap.size, 3, none⟩ = some (setsV T C) ∧ u.drew.cell? ⟨w.heap.size + 1, 0, none⟩ = some (.int .i64 p) ∧ u.drew.cell? ⟨w.heap.size + 1, 1, none⟩ = some (.int .i64 q) ∧ u.drew.cell? ⟨w.heap.size + 1 + 1, 0, none⟩ = some (.int .i64 r) ∧ u.drew.cell? ⟨w.heap.size + 1 + 1, 1, none⟩ = some (.int .i64 s))) := Lib.hid (fun _ h => h)
      have HTC : Hid (∀ (u : World) (i j : Nat) (v : Value), (u.cell? ⟨w2.heap.size, 0, none⟩ = some (.int .i64 bn) ∧ u.cell? ⟨w2.heap.size, 1, none⟩ = some (.int .i64 lo) ∧ u.cell? ⟨w2.heap.size, 2, none⟩ = some (.int .i64 hi) ∧ u.cell? ⟨w2.heap.size, 3, none⟩ = some (setsV T C) ∧ u.cell? ⟨w.heap.size + 1, 0, none⟩ = some (.int .i64 p) ∧ u.cell? ⟨w.heap.size + 1, 1, none⟩ = some (.int .i64 q) ∧ u.cell? ⟨w.heap.size + 1 + 1, 0, none⟩ = some (.int .i64 r) ∧ u.cell? ⟨w.heap.size + 1 + 1, 1, none⟩ = some (.int .i64 s)) → W5.heap.size ≤ i → ((u.setCell ⟨i, j, none⟩ v).cell? ⟨w2.heap.size, 0, none⟩ = some (.int .i64 bn) ∧ (u.setCell ⟨i, j, none⟩ v).cell? ⟨w2.heap.size, 1, none⟩ = some (.int .i64 lo) ∧ (u.setCell ⟨i, j, none⟩ v).cell? ⟨w2.heap.size, 2, none⟩ = some (.int .i64 hi) ∧ (u.setCell ⟨i, j, none⟩ v).cell? ⟨w2.heap.size, 3, none⟩ = some (setsV T C) ∧ (u.setCell ⟨i, j, none⟩ v).cell? ⟨w.heap.size + 1, 0, none⟩ = some (.int .i64 p) ∧ (u.setCell ⟨i, j, none⟩ v).cell? ⟨w.heap.size + 1, 1, none⟩ = some (.int .i64 q) ∧ (u.setCell ⟨i, j, none⟩ v).cell? ⟨w.heap.size + 1 + 1, 0, none⟩ = some (.int .i64 r) ∧ (u.setCell ⟨i, j, none⟩ v).cell? ⟨w.heap.size + 1 + 1, 1, none⟩ = some (.int .i64 s))) :=
        Lib.hid (fun u i j v h k => by
          have hl := HLT.out
          exact ⟨(World.cell?_setCell_far u _ _ v (by dsimp only; omega)).trans h.1, (World.cell?_setCell_far u _ _ v (by dsimp only; omega)).trans h.2.1, (World.cell?_setCell_far u _ _ v (by dsimp only; omega)).trans h.2.2.1, (World.cell?_setCell_far u _ _ v (by dsimp only; omega)).trans h.2.2.2.1, (World.cell?_setCell_far u _ _ v (by dsimp only; omega)).trans h.2.2.2.2.1, (World.cell?_setCell_far u _ _ v (by dsimp only; omega)).trans h.2.2.2.2.2.1, (World.cell?_setCell_far u _ _ v (by dsimp only; omega)).trans h.2.2.2.2.2.2.1, (World.cell?_setCell_far u _ _ v (by dsimp only; omega)).trans h.2.2.2.2.2.2.2⟩)
      have HTT : Hid (∀ u v : World, (u.cell? ⟨w2.heap.size, 0, none⟩ = some (.int .i64 bn) ∧ u.cell? ⟨w2.heap.size, 1, none⟩ = some (.int .i64 lo) ∧ u.cell? ⟨w2.heap.size, 2, none⟩ = some (.int .i64 hi) ∧ u.cell? ⟨w2.heap.size, 3, none⟩ = some (setsV T C) ∧ u.cell? ⟨w.heap.size + 1, 0, none⟩ = some (.int .i64 p) ∧ u.cell? ⟨w.heap.size + 1, 1, none⟩ = some (.int .i64 q) ∧ u.cell? ⟨w.heap.size + 1 + 1, 0, none⟩ = some (.int .i64 r) ∧ u.cell? ⟨w.heap.size + 1 + 1, 1, none⟩ = some (.int .i64 s)) → Step M u v → (v.cell? ⟨w2.heap.size, 0, none⟩ = some (.int .i64 bn) ∧ v.cell? ⟨w2.heap.size, 1, none⟩ = some (.int .i64 lo) ∧ v.cell? ⟨w2.heap.size, 2, none⟩ = some (.int .i64 hi) ∧ v.cell? ⟨w2.heap.size, 3, none⟩ = some (setsV T C) ∧ v.cell? ⟨w.heap.size + 1, 0, none⟩ = some (.int .i64 p) ∧ v.cell? ⟨w.heap.size + 1, 1, none⟩ = some (.int .i64 q) ∧ v.cell? ⟨w.heap.size + 1 + 1, 0, none⟩ = some (.int .i64 r) ∧ v.cell? ⟨w.heap.size + 1 + 1, 1, none⟩ = some (.int .i64 s))) :=
        Lib.hid (fun u v h k => ⟨k.cell h.1 HNE.out.1, k.cell h.2.1 HNE.out.1, k.cell h.2.2.1 HNE.out.1, k.cell h.2.2.2.1 HNE.out.1, k.cell h.2.2.2.2.1 HNE.out.2.1, k.cell h.2.2.2.2.2.1 HNE.out.2.1, k.cell h.2.2.2.2.2.2.1 HNE.out.2.2.1, k.cell h.2.2.2.2.2.2.2 HNE.out.2.2.1⟩)
      go_region_held3 (fun v => v.cell? ⟨w2.heap.size, 0, none⟩ = some (.int .i64 bn) ∧ v.cell? ⟨w2.heap.size, 1, none⟩ = some (.int .i64 lo) ∧ v.cell? ⟨w2.heap.size, 2, none⟩ = some (.int .i64 hi) ∧ v.cell? ⟨w2.heap.size, 3, none⟩ = some (setsV T C) ∧ v.cell? ⟨w.heap.size + 1, 0, none⟩ = some (.int .i64 p) ∧ v.cell? ⟨w.heap.size + 1, 1, none⟩ = some (.int .i64 q) ∧ v.cell? ⟨w.heap.size + 1 + 1, 0, none⟩ = some (.int .i64 r) ∧ v.cell? ⟨w.heap.size + 1 + 1, 1, none⟩ = some (.int .i64 s))
        (first | assumption | exact HT0.out | ((repeat (first | assumption | exact HT0.out | refine HTC.out _ _ _ _ ?_ HZ.out.1 | refine HTS.out _ _ ?_ ((Below.refl _ _).alloc (Nat.le_refl _) _) | refine HTT.out _ _ ?_ (by assumption) | refine HTS.out _ _ ?_ (by assumption))); done) | exact HTD.out _ (HTS.out _ _ HTW.out ((Below.refl _ _).alloc (Nat.le_refl _) _)))
        (first
          | (go_at_call 63; refine (rules_fact bn lo hi T C _).mono ?_; rintro e w3 ⟨B3, rfl, hrh, hb3⟩; have HRH := Lib.hid hrh; clear hrh; (first | (have HZ := Lib.hid (HZ.out.up hb3)) | (have HZ := Lib.hid (boxZ_drew (n := W5.heap.size) (Nat.le_refl _) hb3)) | (have HZ := Lib.hid (boxZ_new (n := W5.heap.size) (by first | exact (Nat.le_refl _ : W5.heap.size ≤ W5.drew.heap.size) | exact hb3.size | exact hb4.size | exact Nat.le_trans hb3.size hb4.size | exact Nat.le_trans hb4.size hb3.size) hb3)) | skip))
          | (go_at_call 51; refine (sides_fact good bad p q r s _).mono ?_; rintro e w4 ⟨Bs, Bb, rfl, hs1, hs2, hb4⟩; have HS1 := Lib.hid hs1; have HS2 := Lib.hid hs2; clear hs1 hs2; (first | (have HZ := Lib.hid (HZ.out.up hb4)) | (have HZ := Lib.hid (boxZ_drew (n := W5.heap.size) (Nat.le_refl _) hb4)) | (have HZ := Lib.hid (boxZ_new (n := W5.heap.size) (by first | exact (Nat.le_refl _ : W5.heap.size ≤ W5.drew.heap.size) | exact hb3.size | exact hb4.size | exact Nat.le_trans hb3.size hb4.size | exact Nat.le_trans hb4.size hb3.size) hb4)) | skip))
          | (go_at_call 49; refine (firstGood_rules (M := M) lo hi good bad p q r s (by omega) (by omega) (by omega) (by omega) (by omega) q3.1 q3.2 _ ?_ ?_ ?_ ?_).mono ?_; (focus (repeat (first | exact HC5.out.drew | exact (HC5.out.alloc _).drew | exact HRH.out | exact HS1.out | exact HS2.out | refine Cnt.alloc ?_ _ | refine Cnt.below ?_ (by assumption) | refine heap_up ?_ _ | refine heap_below ?_ (by assumption)))); (focus (repeat (first | exact HC5.out.drew | exact (HC5.out.alloc _).drew | exact HRH.out | exact HS1.out | exact HS2.out | refine Cnt.alloc ?_ _ | refine Cnt.below ?_ (by assumption) | refine heap_up ?_ _ | refine heap_below ?_ (by assumption)))); (focus (repeat (first | exact HC5.out.drew | exact (HC5.out.alloc _).drew | exact HRH.out | exact HS1.out | exact HS2.out | refine Cnt.alloc ?_ _ | refine Cnt.below ?_ (by assumption) | refine heap_up ?_ _ | refine heap_below ?_ (by assumption)))); (focus (repeat (first | exact HC5.out.drew | exact (HC5.out.alloc _).drew | exact HRH.out | exact HS1.out | exact HS2.out | refine Cnt.alloc ?_ _ | refine Cnt.below ?_ (by assumption) | refine heap_up ?_ _ | refine heap_below ?_ (by assumption)))); rintro e w5 ⟨rfl, hs5, hk5⟩; (first | (have HZ := Lib.hid (HZ.out.keep hk5)) | (have HZ := Lib.hid (boxZ_keep (n := W5.heap.size) (by first | exact (Nat.le_refl _ : W5.heap.size ≤ W5.drew.heap.size) | exact hb3.size | exact hb4.size | exact Nat.le_trans hb3.size hb4.size | exact Nat.le_trans hb4.size hb3.size) hk5)) | skip); (try (have z0 := HZ.out.c0; have z1 := HZ.out.c1; have zf0 := heap_frozen HZ.out.2 0; have zf1 := heap_frozen HZ.out.2 1)); (have hf : w5.heap[w.heap.size + 1 + 1 + 1]? = some (.cells #[.int .i64 0, .int .i64 0] 47) ∧ Below wc.heap.size wc w5 := (by refine ⟨hk5 _ _ _ ?_, below_onStep ?_ hs5 HMW.out⟩; (focus (repeat (first | exact HRB.out | exact heap_up HRB.out _ | refine heap_up ?_ _ | refine heap_below ?_ (by assumption)))); (focus (repeat (first | exact HB5.out | exact HB5.out.drew | exact (below_on HB5.out ((Below.refl _ _).alloc (Nat.le_refl _) _)).drew | refine below_on ?_ ((Below.refl _ _).alloc (Nat.le_refl _) _) | refine below_on ?_ (by assumption)))))); have HF := Lib.hid hf; clear hk5 hf))
      all_goals
        have HRL : Hid (w.heap.size + 1 + 1 + 1 < W5.heap.size ∧ wc.heap.size ≤ W5.heap.size) := Lib.hid ⟨(Array.getElem?_eq_some_iff.1 HRB.out).1, HB5.out.size⟩
        obtain ⟨x, hx⟩ : ∃ x, Pure.least bn good bad p q r s = x := ⟨_, rfl⟩
        rw [hx]
        first
          | (obtain ⟨V, hV, hE⟩ := (endL_set (x := x.1) (y := x.2) HF.out HZ.out HRL.out.1 HRL.out.2).ex; rw [hV])
          | (obtain ⟨V, hV, hE⟩ := (endL_alloc (x := x.1) (y := x.2) HF.out).ex; rw [hV])
        obtain ⟨c0, c1, hrb, hbV⟩ := hE
        have r0 := heap_cell hrb (j := 0) rfl
        have r1 := heap_cell hrb (j := 1) rfl
        have f0 := heap_frozen hrb 0
        have f1 := heap_frozen hrb 1
        have HBV := Lib.hid hbV
        have HX := Lib.hid hx
        clear hV hbV hrb hx
        go_wp2_with fail
        refine bodyPost_ret (v := .tuple #[.agg #[.int .i64 x.1, .int .i64 x.2], .int .i64 0]) (by simp [results, Tryz.results27, go_sem, r0, r1]) rfl ⟨?_, ?_⟩
        · rw [HCODE.out, Pure.pick_zero rfl, Pure.pick_zero rfl, Int.toNat_natCast, HX.out]
        · have h1 := HB1.out.trans ((below_on HBC.out HBV.out).mono (by have := HSZ.out; omega))
          exact (h1.setCell (p := ⟨w.heap.size + 1 + 1 + 1, 0, none⟩) (by simp; omega) _).setCell (p := ⟨w.heap.size + 1 + 1 + 1, 1, none⟩) (by simp; omega) _
    · have hz2 := HZ2.out
      have r0 := heap_cell hz2 (j := 0) rfl
      have r1 := heap_cell hz2 (j := 1) rfl
      have f0 := heap_frozen hz2 0
      have f1 := heap_frozen hz2 1
      have hnb : (code != 0) = true := by simpa using h0
      have H0 := Lib.hid h0
      clear hz2 h0
      go_wp2_with fail
      refine bodyPost_ret (v := .tuple #[.agg #[.int .i64 0, .int .i64 0], .int .i64 code]) (by simp [results, Tryz.results27, go_sem, r0, r1]) rfl ⟨?_, ?_⟩
      · rw [HCODE.out, Pure.pick_err H0.out, Pure.pick_err H0.out]
      · exact ((HB1.out.trans (HBC.out.mono (by have := HSZ.out; omega))).setCell (p := ⟨w.heap.size + 1 + 1 + 1, 0, none⟩) (by simp; omega) _).setCell (p := ⟨w.heap.size + 1 + 1 + 1, 1, none⟩) (by simp; omega) _

end Go.Proofs.YtjegkkpdemoldaaGreatDoor
