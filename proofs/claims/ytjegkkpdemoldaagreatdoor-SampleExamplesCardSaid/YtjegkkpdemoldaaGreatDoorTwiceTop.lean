/-
  The contracts of the five demands of a double rule.
  The contract of checkDouble: for a cargo of at most 36 bags, what is asked of a double rule; for any other cargo, some code.
  The contract of Twice.
-/
import Derived.Test.YtjegkkpdemoldaaGreatDoorDouble
import Derived.Test.YtjegkkpdemoldaaGreatDoorTaken
import Derived.Test.YtjegkkpdemoldaaGreatDoorAccepts

namespace Go.Proofs.YtjegkkpdemoldaaGreatDoor
open Go.RowKit Go.Shelf

set_option maxHeartbeats 1000000 in
set_option maxRecDepth 100000 in
/-- **demand 1**. -/
theorem demand1_any (b lo hi x1 a r x2 t : Int) (w : World) :
    Calls Tryz.prog 95 #[cargoV b lo hi, doubleV x1 a r x2 t] w fun e w' => e = .returned (.tuple #[.int .i64 (x1), .agg #[.int .i64 (0), .int .i64 (b)]]) ∧ Below w.heap.size w w' := by
  go_enter Tryz.func95, Tryz.ntmps95
  go_wp2_with fail
  go_region
  go_wp2_with fail
  refine bodyPost_ret (v := .tuple #[.int .i64 (x1), .agg #[.int .i64 (0), .int .i64 (b)]]) (by simp [results, Tryz.results95, go_sem]) rfl ⟨rfl, ?_⟩
  exact ((((Below.refl _ _).alloc (Nat.le_refl _) _).alloc (by simp) _).alloc (by simp; omega) _).drew

set_option maxHeartbeats 1000000 in
set_option maxRecDepth 100000 in
/-- **demand 2**. -/
theorem demand2_any (b lo hi x1 a r x2 t : Int) (hb0 : 0 ≤ b) (hb : b ≤ 36) (h1 : 0 ≤ x1) (h1b : x1 ≤ b) (w : World) :
    Calls Tryz.prog 96 #[cargoV b lo hi, doubleV x1 a r x2 t] w fun e w' => e = .returned (.tuple #[.int .i64 (x2), .agg #[.int .i64 (0), .int .i64 (b - x1)]]) ∧ Below w.heap.size w w' := by
  go_enter Tryz.func96, Tryz.ntmps96
  go_wp2_with fail
  go_region
  go_wp2_with fail
  refine bodyPost_ret (v := .tuple #[.int .i64 (x2), .agg #[.int .i64 (0), .int .i64 (b - x1)]]) (by simp [results, Tryz.results96, go_sem]) rfl ⟨rfl, ?_⟩
  exact ((((Below.refl _ _).alloc (Nat.le_refl _) _).alloc (by simp) _).alloc (by simp; omega) _).drew

set_option maxHeartbeats 1000000 in
set_option maxRecDepth 100000 in
/-- **demand 3**. -/
theorem demand3_any (b lo hi x1 a r x2 t : Int) (w : World) :
    Calls Tryz.prog 97 #[cargoV b lo hi, doubleV x1 a r x2 t] w fun e w' => e = .returned (.tuple #[.int .i64 (a), .agg #[.int .i64 (0), .int .i64 (x1)]]) ∧ Below w.heap.size w w' := by
  go_enter Tryz.func97, Tryz.ntmps97
  go_wp2_with fail
  go_region
  go_wp2_with fail
  refine bodyPost_ret (v := .tuple #[.int .i64 (a), .agg #[.int .i64 (0), .int .i64 (x1)]]) (by simp [results, Tryz.results97, go_sem]) rfl ⟨rfl, ?_⟩
  exact ((((Below.refl _ _).alloc (Nat.le_refl _) _).alloc (by simp) _).alloc (by simp; omega) _).drew

set_option maxHeartbeats 1000000 in
set_option maxRecDepth 100000 in
/-- **demand 4**. -/
theorem demand4_any (b lo hi x1 a r x2 t : Int) (ha0 : 0 ≤ a) (ha : a ≤ x1) (h1 : x1 ≤ 36) (w : World) :
    Calls Tryz.prog 98 #[cargoV b lo hi, doubleV x1 a r x2 t] w fun e w' => e = .returned (.tuple #[.int .i64 (r), .agg #[.int .i64 (a + 1), .int .i64 (x1 + 1)]]) ∧ Below w.heap.size w w' := by
  go_enter Tryz.func98, Tryz.ntmps98
  go_wp2_with fail
  go_region
  go_wp2_with fail
  refine bodyPost_ret (v := .tuple #[.int .i64 (r), .agg #[.int .i64 (a + 1), .int .i64 (x1 + 1)]]) (by simp [results, Tryz.results98, go_sem]) rfl ⟨rfl, ?_⟩
  exact ((((Below.refl _ _).alloc (Nat.le_refl _) _).alloc (by simp) _).alloc (by simp; omega) _).drew

set_option maxHeartbeats 1000000 in
set_option maxRecDepth 100000 in
/-- **demand 5**. -/
theorem demand5_any (b lo hi x1 a r x2 t : Int) (hr0 : 0 ≤ r) (hr : r ≤ 37) (h2 : 0 ≤ x2) (h2b : x2 ≤ 36) (w : World) :
    Calls Tryz.prog 99 #[cargoV b lo hi, doubleV x1 a r x2 t] w fun e w' => e = .returned (.tuple #[.int .i64 (t), .agg #[.int .i64 (a), .int .i64 (r + x2)]]) ∧ Below w.heap.size w w' := by
  go_enter Tryz.func99, Tryz.ntmps99
  go_wp2_with fail
  go_region
  go_wp2_with fail
  refine bodyPost_ret (v := .tuple #[.int .i64 (t), .agg #[.int .i64 (a), .int .i64 (r + x2)]]) (by simp [results, Tryz.results99, go_sem]) rfl ⟨rfl, ?_⟩
  exact ((((Below.refl _ _).alloc (Nat.le_refl _) _).alloc (by simp) _).alloc (by simp; omega) _).drew

/-- The five demands, as an array. -/
abbrev demandsV : Value := .agg #[.func (.func 95) #[] #[], .func (.func 96) #[] #[], .func (.func 97) #[] #[], .func (.func 98) #[] #[], .func (.func 99) #[] #[]]
set_option maxHeartbeats 1000000 in
set_option maxRecDepth 100000 in
/-- **demands**. -/
theorem demands_any (w : World) : Calls Tryz.prog 86 #[] w fun e w' => e = .returned demandsV ∧ Below w.heap.size w w' := by
  go_enter Tryz.func86, Tryz.ntmps86
  go_wp2_with fail
  refine bodyPost_ret (v := demandsV) (by simp [results, Tryz.results86, go_sem]) rfl ⟨rfl, ?_⟩
  exact (Below.refl _ _).alloc (Nat.le_refl _) _

end Go.Proofs.YtjegkkpdemoldaaGreatDoor

namespace Go.Proofs.YtjegkkpdemoldaaGreatDoor
open Go.RowKit Go.Shelf

namespace Pure
/-- The first k demands are met. -/
def upDouble (b x1 a r x2 t : Int) (k : Nat) : Prop :=
  (1 ≤ k → 0 ≤ x1 ∧ x1 ≤ b) ∧ (2 ≤ k → 0 ≤ x2 ∧ x2 ≤ b - x1) ∧ (3 ≤ k → 0 ≤ a ∧ a ≤ x1) ∧ (4 ≤ k → a + 1 ≤ r ∧ r ≤ x1 + 1) ∧ (5 ≤ k → a ≤ t ∧ t ≤ r + x2)
def okDouble (b x1 a r x2 t : Int) : Bool := decide (0 ≤ x1 ∧ x1 ≤ b ∧ 0 ≤ x2 ∧ x2 ≤ b - x1 ∧ 0 ≤ a ∧ a ≤ x1 ∧ a + 1 ≤ r ∧ r ≤ x1 + 1 ∧ a ≤ t ∧ t ≤ r + x2)
theorem okDouble_all {b x1 a r x2 t : Int} (h : upDouble b x1 a r x2 t 5) : okDouble b x1 a r x2 t = true := by
  unfold upDouble at h
  unfold okDouble
  rw [decide_eq_true_eq]
  omega
theorem okDouble_no {b x1 a r x2 t : Int} (h : ¬ upDouble b x1 a r x2 t 5) : okDouble b x1 a r x2 t = false := by
  unfold upDouble at h
  unfold okDouble
  rw [decide_eq_false_iff_not]
  omega
theorem upDouble_le {b x1 a r x2 t : Int} {k : Nat} (h : upDouble b x1 a r x2 t 5) (_ : k ≤ 5) : upDouble b x1 a r x2 t k := by
  unfold upDouble at *
  omega
/-- The number and the span of the k-th demand, for a small cargo. -/
def numOf : Int → Int → Int → Int → Int → Nat → Int
  | x1, _, _, _, _, 0 => x1
  | _, _, _, x2, _, 1 => x2
  | _, a, _, _, _, 2 => a
  | _, _, r, _, _, 3 => r
  | _, _, _, _, t, _ => t
def lowOf (a : Int) : Nat → Int
  | 3 => a + 1
  | 4 => a
  | _ => 0
def highOf : Int → Int → Int → Int → Nat → Int
  | b, _, _, _, 0 => b
  | b, x1, _, _, 1 => b - x1
  | _, x1, _, _, 2 => x1
  | _, x1, _, _, 3 => x1 + 1
  | _, _, r, x2, _ => r + x2
theorem upDouble_zero (b x1 a r x2 t : Int) : upDouble b x1 a r x2 t 0 := by unfold upDouble; omega
theorem upDouble_succ {b x1 a r x2 t : Int} {k : Nat} (hk : k < 5) (h : upDouble b x1 a r x2 t k) : upDouble b x1 a r x2 t (k + 1) ↔ lowOf a k ≤ numOf x1 a r x2 t k ∧ numOf x1 a r x2 t k ≤ highOf b x1 r x2 k := by
  have : k = 0 ∨ k = 1 ∨ k = 2 ∨ k = 3 ∨ k = 4 := by omega
  unfold upDouble at *
  rcases this with rfl | rfl | rfl | rfl | rfl <;> simp only [lowOf, numOf, highOf] <;> omega
end Pure

/-- What a demand answers: a number and a span; those of a small cargo. -/
def Told (b x1 a r x2 t : Int) (k : Nat) (w : World) (e : Ending) (w' : World) : Prop :=
  ∃ lo hi : Int, e = .returned (.tuple #[.int .i64 (Pure.numOf x1 a r x2 t k), .agg #[.int .i64 lo, .int .i64 hi]]) ∧ (0 ≤ b → b ≤ 36 → Pure.upDouble b x1 a r x2 t k → lo = Pure.lowOf a k ∧ hi = Pure.highOf b x1 r x2 k) ∧ Below w.heap.size w w'

theorem told0 (b lo hi x1 a r x2 t : Int) (w : World) : Calls Tryz.prog 95 #[cargoV b lo hi, doubleV x1 a r x2 t] w (Told b x1 a r x2 t 0 w) :=
  (demand1_any b lo hi x1 a r x2 t w).mono fun _ _ h => ⟨_, _, h.1, fun _ _ _ => ⟨rfl, rfl⟩, h.2⟩
theorem told2 (b lo hi x1 a r x2 t : Int) (w : World) : Calls Tryz.prog 97 #[cargoV b lo hi, doubleV x1 a r x2 t] w (Told b x1 a r x2 t 2 w) :=
  (demand3_any b lo hi x1 a r x2 t w).mono fun _ _ h => ⟨_, _, h.1, fun _ _ _ => ⟨rfl, rfl⟩, h.2⟩
set_option maxHeartbeats 1000000 in
set_option maxRecDepth 100000 in
theorem told1 (b lo hi x1 a r x2 t : Int) (w : World) : Calls Tryz.prog 96 #[cargoV b lo hi, doubleV x1 a r x2 t] w (Told b x1 a r x2 t 1 w) := by
  by_cases h : 0 ≤ b ∧ b ≤ 36 ∧ 0 ≤ x1 ∧ x1 ≤ b
  · exact (demand2_any b lo hi x1 a r x2 t h.1 h.2.1 h.2.2.1 h.2.2.2 w).mono fun _ _ h => ⟨_, _, h.1, fun _ _ _ => ⟨rfl, rfl⟩, h.2⟩
  · have H := Lib.hid h
    clear h
    go_enter Tryz.func96, Tryz.ntmps96
    go_wp2_with fail
    go_region
    all_goals
      go_wp2_with fail
      refine bodyPost_ret (v := .tuple #[.int .i64 x2, .agg #[.int .i64 0, .int .i64 (wrap64 (b - x1))]]) (by simp [results, Tryz.results96, go_sem]) rfl ⟨_, _, rfl, ?_, ?_⟩
      · intro h1 h2 h3
        exact absurd ⟨h1, h2, h3.1 (by omega)⟩ H.out
      · exact ((((Below.refl _ _).alloc (Nat.le_refl _) _).alloc (by simp) _).alloc (by simp; omega) _).drew
set_option maxHeartbeats 1000000 in
set_option maxRecDepth 100000 in
theorem told3 (b lo hi x1 a r x2 t : Int) (w : World) : Calls Tryz.prog 98 #[cargoV b lo hi, doubleV x1 a r x2 t] w (Told b x1 a r x2 t 3 w) := by
  by_cases h : 0 ≤ a ∧ a ≤ x1 ∧ x1 ≤ 36
  · exact (demand4_any b lo hi x1 a r x2 t h.1 h.2.1 h.2.2 w).mono fun _ _ h => ⟨_, _, h.1, fun _ _ _ => ⟨rfl, rfl⟩, h.2⟩
  · have H := Lib.hid h
    clear h
    go_enter Tryz.func98, Tryz.ntmps98
    go_wp2_with fail
    go_region
    all_goals
      go_wp2_with fail
      refine bodyPost_ret (v := .tuple #[.int .i64 r, .agg #[.int .i64 (wrap64 (a + 1)), .int .i64 (wrap64 (x1 + 1))]]) (by simp [results, Tryz.results98, go_sem]) rfl ⟨_, _, rfl, ?_, ?_⟩
      · intro h1 h2 h3
        have p := h3.1 (by omega)
        have q := h3.2.2.1 (by omega)
        exact absurd ⟨q.1, q.2, by omega⟩ H.out
      · exact ((((Below.refl _ _).alloc (Nat.le_refl _) _).alloc (by simp) _).alloc (by simp; omega) _).drew
set_option maxHeartbeats 1000000 in
set_option maxRecDepth 100000 in
theorem told4 (b lo hi x1 a r x2 t : Int) (w : World) : Calls Tryz.prog 99 #[cargoV b lo hi, doubleV x1 a r x2 t] w (Told b x1 a r x2 t 4 w) := by
  by_cases h : 0 ≤ r ∧ r ≤ 37 ∧ 0 ≤ x2 ∧ x2 ≤ 36
  · exact (demand5_any b lo hi x1 a r x2 t h.1 h.2.1 h.2.2.1 h.2.2.2 w).mono fun _ _ h => ⟨_, _, h.1, fun _ _ _ => ⟨rfl, rfl⟩, h.2⟩
  · have H := Lib.hid h
    clear h
    go_enter Tryz.func99, Tryz.ntmps99
    go_wp2_with fail
    go_region
    all_goals
      go_wp2_with fail
      refine bodyPost_ret (v := .tuple #[.int .i64 t, .agg #[.int .i64 a, .int .i64 (wrap64 (r + x2))]]) (by simp [results, Tryz.results99, go_sem]) rfl ⟨_, _, rfl, ?_, ?_⟩
      · intro h1 h2 h3
        have p := h3.1 (by omega)
        have q := h3.2.1 (by omega)
        have s := h3.2.2.1 (by omega)
        have u := h3.2.2.2.1 (by omega)
        exact absurd ⟨by omega, by omega, q.1, by omega⟩ H.out
      · exact ((((Below.refl _ _).alloc (Nat.le_refl _) _).alloc (by simp) _).alloc (by simp; omega) _).drew

abbrev demV (f : Nat) : Value := .agg #[.func (.func f) #[] #[]]
theorem dIdx0 (w : World) : (Instr.index 145 (.agg #[.func (.func 95) #[] #[], .func (.func 96) #[] #[], .func (.func 97) #[] #[], .func (.func 98) #[] #[], .func (.func 99) #[] #[]]) (.int .i64 0)).run Tryz.prog w = .ok (.agg #[.func (.func 95) #[] #[]]) w := by kernel_rfl
theorem dIdx1 (w : World) : (Instr.index 145 (.agg #[.func (.func 95) #[] #[], .func (.func 96) #[] #[], .func (.func 97) #[] #[], .func (.func 98) #[] #[], .func (.func 99) #[] #[]]) (.int .i64 1)).run Tryz.prog w = .ok (.agg #[.func (.func 96) #[] #[]]) w := by kernel_rfl
theorem dIdx2 (w : World) : (Instr.index 145 (.agg #[.func (.func 95) #[] #[], .func (.func 96) #[] #[], .func (.func 97) #[] #[], .func (.func 98) #[] #[], .func (.func 99) #[] #[]]) (.int .i64 2)).run Tryz.prog w = .ok (.agg #[.func (.func 97) #[] #[]]) w := by kernel_rfl
theorem dIdx3 (w : World) : (Instr.index 145 (.agg #[.func (.func 95) #[] #[], .func (.func 96) #[] #[], .func (.func 97) #[] #[], .func (.func 98) #[] #[], .func (.func 99) #[] #[]]) (.int .i64 3)).run Tryz.prog w = .ok (.agg #[.func (.func 98) #[] #[]]) w := by kernel_rfl
theorem dIdx4 (w : World) : (Instr.index 145 (.agg #[.func (.func 95) #[] #[], .func (.func 96) #[] #[], .func (.func 97) #[] #[], .func (.func 98) #[] #[], .func (.func 99) #[] #[]]) (.int .i64 4)).run Tryz.prog w = .ok (.agg #[.func (.func 99) #[] #[]]) w := by kernel_rfl

/-- What checkDouble answers. -/
def DoubleCode (b x1 a r x2 t : Int) (w : World) (e : Ending) (w' : World) : Prop :=
  ∃ code : Int, e = .returned (.int .i64 code) ∧ (0 ≤ b → b ≤ 36 → code = Pure.err (Pure.okDouble b x1 a r x2 t) 13) ∧ Below w.heap.size w w'

/-- What the rounds leave: k demands are met, for a small cargo. -/
def MetTo (b x1 a r x2 t : Int) (w : World) (k : Nat) (wr : World) : Prop :=
  (0 ≤ b → b ≤ 36 → Pure.upDouble b x1 a r x2 t k) ∧ Below w.heap.size w wr
theorem MetTo.no {b x1 a r x2 t lo hi : Int} {w wr : World} {k : Nat} (h : MetTo b x1 a r x2 t w k wr) (hk : k < 5) (ht : 0 ≤ b → b ≤ 36 → Pure.upDouble b x1 a r x2 t k → lo = Pure.lowOf a k ∧ hi = Pure.highOf b x1 r x2 k)
    (hr : (decide (lo ≤ Pure.numOf x1 a r x2 t k) && decide (Pure.numOf x1 a r x2 t k ≤ hi)) = false) (h0 : 0 ≤ b) (h1 : b ≤ 36) : Pure.okDouble b x1 a r x2 t = false := by
  refine Pure.okDouble_no fun h5 => ?_
  have hu := Pure.upDouble_le h5 (show k + 1 ≤ 5 by omega)
  have hu0 := h.1 h0 h1
  obtain ⟨rfl, rfl⟩ := ht h0 h1 hu0
  have := (Pure.upDouble_succ hk hu0).1 hu
  simp at hr
  omega
theorem MetTo.yes {b x1 a r x2 t lo hi : Int} {w wr wv : World} {k : Nat} (h : MetTo b x1 a r x2 t w k wr) (hk : k < 5) (ht : 0 ≤ b → b ≤ 36 → Pure.upDouble b x1 a r x2 t k → lo = Pure.lowOf a k ∧ hi = Pure.highOf b x1 r x2 k)
    (hr : (decide (lo ≤ Pure.numOf x1 a r x2 t k) && decide (Pure.numOf x1 a r x2 t k ≤ hi)) = true) (hb : Below wr.heap.size wr wv) : MetTo b x1 a r x2 t w (k + 1) wv := by
  refine ⟨fun h0 h1 => ?_, h.2.trans (hb.mono h.2.size)⟩
  have hu0 := h.1 h0 h1
  obtain ⟨rfl, rfl⟩ := ht h0 h1 hu0
  simp at hr
  exact (Pure.upDouble_succ hk hu0).2 hr

set_option maxHeartbeats 4000000 in
set_option maxRecDepth 100000 in
/-- **checkDouble**. -/
theorem checkDouble_any (b lo hi x1 a r x2 t : Int) (w : World) :
    Calls Tryz.prog 64 #[cargoV b lo hi, doubleV x1 a r x2 t] w (DoubleCode b x1 a r x2 t w) := by
  have i0 := dIdx0
  have i1 := dIdx1
  have i2 := dIdx2
  have i3 := dIdx3
  have i4 := dIdx4
  go_enter Tryz.func64, Tryz.ntmps64
  go_wp2_with (go_at_call 86; refine (demands_any _).mono ?_; rintro e w1 ⟨rfl, hb1⟩)
  have hc : w1.heap[w.heap.size]? = some (.cells #[.int .i64 b, .int .i64 lo, .int .i64 hi] 28) := (hb1.block _ (by simp; omega)).trans (heap_up (heap_top _ _ rfl) _)
  have hd : w1.heap[w.heap.size + 1]? = some (.cells #[.int .i64 x1, .int .i64 a, .int .i64 r, .int .i64 x2, .int .i64 t] 71) := (hb1.block _ (by simp)).trans (heap_top _ _ (by simp))
  have hb : Below w.heap.size w w1 := (((Below.refl _ _).alloc (Nat.le_refl _) _).alloc (by simp) _).trans (hb1.mono (by simp; omega))
  have HC := Lib.hid hc
  have HD := Lib.hid hd
  have HB := Lib.hid hb
  clear hc hd hb hb1
  go_loopw [10] (fun i wr => ∃ k : Nat, k ≤ 5 ∧ i = .int .i64 k ∧ MetTo b x1 a r x2 t w k wr ∧ Below w1.heap.size w1 wr) (fun i _ => 5 - (intOf i).toNat)
  case atStart => exact ⟨0, by omega, rfl, ⟨fun _ _ => Pure.upDouble_zero _ _ _ _ _ _, HB.out⟩, Below.refl _ _⟩
  case round =>
    obtain ⟨k, hk, rfl, hm, hbr⟩ := hrel
    have HM := Lib.hid hm
    have HBR := Lib.hid hbr
    clear hm hbr
    have hk6 : k = 0 ∨ k = 1 ∨ k = 2 ∨ k = 3 ∨ k = 4 ∨ k = 5 := by omega
    rcases hk6 with rfl | rfl | rfl | rfl | rfl | rfl
    · have c0 := cell_up (below_cell HBR.out (heap_cell HC.out (j := 0) rfl)) (Obj.cells #[.func (.func 95) #[] #[]] 144)
      have c1 := cell_up (below_cell HBR.out (heap_cell HC.out (j := 1) rfl)) (Obj.cells #[.func (.func 95) #[] #[]] 144)
      have c2 := cell_up (below_cell HBR.out (heap_cell HC.out (j := 2) rfl)) (Obj.cells #[.func (.func 95) #[] #[]] 144)
      have d0 := cell_up (below_cell HBR.out (heap_cell HD.out (j := 0) rfl)) (Obj.cells #[.func (.func 95) #[] #[]] 144)
      have d1 := cell_up (below_cell HBR.out (heap_cell HD.out (j := 1) rfl)) (Obj.cells #[.func (.func 95) #[] #[]] 144)
      have d2 := cell_up (below_cell HBR.out (heap_cell HD.out (j := 2) rfl)) (Obj.cells #[.func (.func 95) #[] #[]] 144)
      have d3 := cell_up (below_cell HBR.out (heap_cell HD.out (j := 3) rfl)) (Obj.cells #[.func (.func 95) #[] #[]] 144)
      have d4 := cell_up (below_cell HBR.out (heap_cell HD.out (j := 4) rfl)) (Obj.cells #[.func (.func 95) #[] #[]] 144)
      go_wp2_with fail
      refine (told0 b lo hi x1 a r x2 t _).mono ?_
      rintro e w3 ⟨l, h, rfl, ht, hb3⟩
      have HT := Lib.hid ht
      have HB3 : Hid (Below wr.heap.size wr w3) := Lib.hid (((Below.refl _ _).alloc (Nat.le_refl _) _).trans (hb3.mono (by simp)))
      obtain ⟨n, hn⟩ : ∃ n, Pure.numOf x1 a r x2 t 0 = n := ⟨_, rfl⟩
      obtain ⟨q, hq⟩ : ∃ q, (decide (l ≤ n) && decide (n ≤ h)) = q := ⟨_, rfl⟩
      have HQ := Lib.hid hq
      have HN := Lib.hid hn
      rw [hn]
      clear ht hb3 c0 c1 c2 d0 d1 d2 d3 d4 i0 i1 i2 i3 i4 hn hq
      go_wp2_with fail
      refine (within1 l h n _ 1 _ (cells_top _ _ _ (by simp) 0) q HQ.out).mono ?_
      rintro e w4 ⟨rfl, rfl⟩
      cases q
      · go_wp2_with fail
        go_ret
        refine ⟨13, rfl, fun h0 h1 => by rw [HM.out.no (by omega) HT.out (by rw [HN.out]; exact HQ.out) h0 h1]; rfl, HM.out.2.trans (Below.mono (HB3.out.trans (Below.mono (?_ : Below w3.heap.size w3 _) HB3.out.size)) HM.out.2.size)⟩
        repeat (first | exact Below.refl _ _ | refine Below.alloc ?_ (by simp; try omega) _ | refine Below.setCell ?_ (by simp; try omega) _)
      · have hbz := fun (v : World) (hv : Below w3.heap.size w3 v) => Below.trans HB3.out (hv.mono HB3.out.size)
        have HBZ := Lib.hid hbz
        clear hbz
        go_wp2_with fail
        go_roundw
        case rel => exact ⟨1, by omega, by go_num, HM.out.yes (by omega) HT.out (by rw [HN.out]; exact HQ.out) (HBZ.out _ (by repeat (first | exact Below.refl _ _ | refine Below.alloc ?_ (by simp; try omega) _ | refine Below.setCell ?_ (by simp; try omega) _))), HBR.out.trans (Below.mono (HBZ.out _ (by repeat (first | exact Below.refl _ _ | refine Below.alloc ?_ (by simp; try omega) _ | refine Below.setCell ?_ (by simp; try omega) _))) HBR.out.size)⟩
        case measure => simp [intOf]
    · have c0 := cell_up (below_cell HBR.out (heap_cell HC.out (j := 0) rfl)) (Obj.cells #[.func (.func 96) #[] #[]] 144)
      have c1 := cell_up (below_cell HBR.out (heap_cell HC.out (j := 1) rfl)) (Obj.cells #[.func (.func 96) #[] #[]] 144)
      have c2 := cell_up (below_cell HBR.out (heap_cell HC.out (j := 2) rfl)) (Obj.cells #[.func (.func 96) #[] #[]] 144)
      have d0 := cell_up (below_cell HBR.out (heap_cell HD.out (j := 0) rfl)) (Obj.cells #[.func (.func 96) #[] #[]] 144)
      have d1 := cell_up (below_cell HBR.out (heap_cell HD.out (j := 1) rfl)) (Obj.cells #[.func (.func 96) #[] #[]] 144)
      have d2 := cell_up (below_cell HBR.out (heap_cell HD.out (j := 2) rfl)) (Obj.cells #[.func (.func 96) #[] #[]] 144)
      have d3 := cell_up (below_cell HBR.out (heap_cell HD.out (j := 3) rfl)) (Obj.cells #[.func (.func 96) #[] #[]] 144)
      have d4 := cell_up (below_cell HBR.out (heap_cell HD.out (j := 4) rfl)) (Obj.cells #[.func (.func 96) #[] #[]] 144)
      go_wp2_with fail
      refine (told1 b lo hi x1 a r x2 t _).mono ?_
      rintro e w3 ⟨l, h, rfl, ht, hb3⟩
      have HT := Lib.hid ht
      have HB3 : Hid (Below wr.heap.size wr w3) := Lib.hid (((Below.refl _ _).alloc (Nat.le_refl _) _).trans (hb3.mono (by simp)))
      obtain ⟨n, hn⟩ : ∃ n, Pure.numOf x1 a r x2 t 1 = n := ⟨_, rfl⟩
      obtain ⟨q, hq⟩ : ∃ q, (decide (l ≤ n) && decide (n ≤ h)) = q := ⟨_, rfl⟩
      have HQ := Lib.hid hq
      have HN := Lib.hid hn
      rw [hn]
      clear ht hb3 c0 c1 c2 d0 d1 d2 d3 d4 i0 i1 i2 i3 i4 hn hq
      go_wp2_with fail
      refine (within1 l h n _ 1 _ (cells_top _ _ _ (by simp) 0) q HQ.out).mono ?_
      rintro e w4 ⟨rfl, rfl⟩
      cases q
      · go_wp2_with fail
        go_ret
        refine ⟨13, rfl, fun h0 h1 => by rw [HM.out.no (by omega) HT.out (by rw [HN.out]; exact HQ.out) h0 h1]; rfl, HM.out.2.trans (Below.mono (HB3.out.trans (Below.mono (?_ : Below w3.heap.size w3 _) HB3.out.size)) HM.out.2.size)⟩
        repeat (first | exact Below.refl _ _ | refine Below.alloc ?_ (by simp; try omega) _ | refine Below.setCell ?_ (by simp; try omega) _)
      · have hbz := fun (v : World) (hv : Below w3.heap.size w3 v) => Below.trans HB3.out (hv.mono HB3.out.size)
        have HBZ := Lib.hid hbz
        clear hbz
        go_wp2_with fail
        go_roundw
        case rel => exact ⟨2, by omega, by go_num, HM.out.yes (by omega) HT.out (by rw [HN.out]; exact HQ.out) (HBZ.out _ (by repeat (first | exact Below.refl _ _ | refine Below.alloc ?_ (by simp; try omega) _ | refine Below.setCell ?_ (by simp; try omega) _))), HBR.out.trans (Below.mono (HBZ.out _ (by repeat (first | exact Below.refl _ _ | refine Below.alloc ?_ (by simp; try omega) _ | refine Below.setCell ?_ (by simp; try omega) _))) HBR.out.size)⟩
        case measure => simp [intOf]
    · have c0 := cell_up (below_cell HBR.out (heap_cell HC.out (j := 0) rfl)) (Obj.cells #[.func (.func 97) #[] #[]] 144)
      have c1 := cell_up (below_cell HBR.out (heap_cell HC.out (j := 1) rfl)) (Obj.cells #[.func (.func 97) #[] #[]] 144)
      have c2 := cell_up (below_cell HBR.out (heap_cell HC.out (j := 2) rfl)) (Obj.cells #[.func (.func 97) #[] #[]] 144)
      have d0 := cell_up (below_cell HBR.out (heap_cell HD.out (j := 0) rfl)) (Obj.cells #[.func (.func 97) #[] #[]] 144)
      have d1 := cell_up (below_cell HBR.out (heap_cell HD.out (j := 1) rfl)) (Obj.cells #[.func (.func 97) #[] #[]] 144)
      have d2 := cell_up (below_cell HBR.out (heap_cell HD.out (j := 2) rfl)) (Obj.cells #[.func (.func 97) #[] #[]] 144)
      have d3 := cell_up (below_cell HBR.out (heap_cell HD.out (j := 3) rfl)) (Obj.cells #[.func (.func 97) #[] #[]] 144)
      have d4 := cell_up (below_cell HBR.out (heap_cell HD.out (j := 4) rfl)) (Obj.cells #[.func (.func 97) #[] #[]] 144)
      go_wp2_with fail
      refine (told2 b lo hi x1 a r x2 t _).mono ?_
      rintro e w3 ⟨l, h, rfl, ht, hb3⟩
      have HT := Lib.hid ht
      have HB3 : Hid (Below wr.heap.size wr w3) := Lib.hid (((Below.refl _ _).alloc (Nat.le_refl _) _).trans (hb3.mono (by simp)))
      obtain ⟨n, hn⟩ : ∃ n, Pure.numOf x1 a r x2 t 2 = n := ⟨_, rfl⟩
      obtain ⟨q, hq⟩ : ∃ q, (decide (l ≤ n) && decide (n ≤ h)) = q := ⟨_, rfl⟩
      have HQ := Lib.hid hq
      have HN := Lib.hid hn
      rw [hn]
      clear ht hb3 c0 c1 c2 d0 d1 d2 d3 d4 i0 i1 i2 i3 i4 hn hq
      go_wp2_with fail
      refine (within1 l h n _ 1 _ (cells_top _ _ _ (by simp) 0) q HQ.out).mono ?_
      rintro e w4 ⟨rfl, rfl⟩
      cases q
      · go_wp2_with fail
        go_ret
        refine ⟨13, rfl, fun h0 h1 => by rw [HM.out.no (by omega) HT.out (by rw [HN.out]; exact HQ.out) h0 h1]; rfl, HM.out.2.trans (Below.mono (HB3.out.trans (Below.mono (?_ : Below w3.heap.size w3 _) HB3.out.size)) HM.out.2.size)⟩
        repeat (first | exact Below.refl _ _ | refine Below.alloc ?_ (by simp; try omega) _ | refine Below.setCell ?_ (by simp; try omega) _)
      · have hbz := fun (v : World) (hv : Below w3.heap.size w3 v) => Below.trans HB3.out (hv.mono HB3.out.size)
        have HBZ := Lib.hid hbz
        clear hbz
        go_wp2_with fail
        go_roundw
        case rel => exact ⟨3, by omega, by go_num, HM.out.yes (by omega) HT.out (by rw [HN.out]; exact HQ.out) (HBZ.out _ (by repeat (first | exact Below.refl _ _ | refine Below.alloc ?_ (by simp; try omega) _ | refine Below.setCell ?_ (by simp; try omega) _))), HBR.out.trans (Below.mono (HBZ.out _ (by repeat (first | exact Below.refl _ _ | refine Below.alloc ?_ (by simp; try omega) _ | refine Below.setCell ?_ (by simp; try omega) _))) HBR.out.size)⟩
        case measure => simp [intOf]
    · have c0 := cell_up (below_cell HBR.out (heap_cell HC.out (j := 0) rfl)) (Obj.cells #[.func (.func 98) #[] #[]] 144)
      have c1 := cell_up (below_cell HBR.out (heap_cell HC.out (j := 1) rfl)) (Obj.cells #[.func (.func 98) #[] #[]] 144)
      have c2 := cell_up (below_cell HBR.out (heap_cell HC.out (j := 2) rfl)) (Obj.cells #[.func (.func 98) #[] #[]] 144)
      have d0 := cell_up (below_cell HBR.out (heap_cell HD.out (j := 0) rfl)) (Obj.cells #[.func (.func 98) #[] #[]] 144)
      have d1 := cell_up (below_cell HBR.out (heap_cell HD.out (j := 1) rfl)) (Obj.cells #[.func (.func 98) #[] #[]] 144)
      have d2 := cell_up (below_cell HBR.out (heap_cell HD.out (j := 2) rfl)) (Obj.cells #[.func (.func 98) #[] #[]] 144)
      have d3 := cell_up (below_cell HBR.out (heap_cell HD.out (j := 3) rfl)) (Obj.cells #[.func (.func 98) #[] #[]] 144)
      have d4 := cell_up (below_cell HBR.out (heap_cell HD.out (j := 4) rfl)) (Obj.cells #[.func (.func 98) #[] #[]] 144)
      go_wp2_with fail
      refine (told3 b lo hi x1 a r x2 t _).mono ?_
      rintro e w3 ⟨l, h, rfl, ht, hb3⟩
      have HT := Lib.hid ht
      have HB3 : Hid (Below wr.heap.size wr w3) := Lib.hid (((Below.refl _ _).alloc (Nat.le_refl _) _).trans (hb3.mono (by simp)))
      obtain ⟨n, hn⟩ : ∃ n, Pure.numOf x1 a r x2 t 3 = n := ⟨_, rfl⟩
      obtain ⟨q, hq⟩ : ∃ q, (decide (l ≤ n) && decide (n ≤ h)) = q := ⟨_, rfl⟩
      have HQ := Lib.hid hq
      have HN := Lib.hid hn
      rw [hn]
      clear ht hb3 c0 c1 c2 d0 d1 d2 d3 d4 i0 i1 i2 i3 i4 hn hq
      go_wp2_with fail
      refine (within1 l h n _ 1 _ (cells_top _ _ _ (by simp) 0) q HQ.out).mono ?_
      rintro e w4 ⟨rfl, rfl⟩
      cases q
      · go_wp2_with fail
        go_ret
        refine ⟨13, rfl, fun h0 h1 => by rw [HM.out.no (by omega) HT.out (by rw [HN.out]; exact HQ.out) h0 h1]; rfl, HM.out.2.trans (Below.mono (HB3.out.trans (Below.mono (?_ : Below w3.heap.size w3 _) HB3.out.size)) HM.out.2.size)⟩
        repeat (first | exact Below.refl _ _ | refine Below.alloc ?_ (by simp; try omega) _ | refine Below.setCell ?_ (by simp; try omega) _)
      · have hbz := fun (v : World) (hv : Below w3.heap.size w3 v) => Below.trans HB3.out (hv.mono HB3.out.size)
        have HBZ := Lib.hid hbz
        clear hbz
        go_wp2_with fail
        go_roundw
        case rel => exact ⟨4, by omega, by go_num, HM.out.yes (by omega) HT.out (by rw [HN.out]; exact HQ.out) (HBZ.out _ (by repeat (first | exact Below.refl _ _ | refine Below.alloc ?_ (by simp; try omega) _ | refine Below.setCell ?_ (by simp; try omega) _))), HBR.out.trans (Below.mono (HBZ.out _ (by repeat (first | exact Below.refl _ _ | refine Below.alloc ?_ (by simp; try omega) _ | refine Below.setCell ?_ (by simp; try omega) _))) HBR.out.size)⟩
        case measure => simp [intOf]
    · have c0 := cell_up (below_cell HBR.out (heap_cell HC.out (j := 0) rfl)) (Obj.cells #[.func (.func 99) #[] #[]] 144)
      have c1 := cell_up (below_cell HBR.out (heap_cell HC.out (j := 1) rfl)) (Obj.cells #[.func (.func 99) #[] #[]] 144)
      have c2 := cell_up (below_cell HBR.out (heap_cell HC.out (j := 2) rfl)) (Obj.cells #[.func (.func 99) #[] #[]] 144)
      have d0 := cell_up (below_cell HBR.out (heap_cell HD.out (j := 0) rfl)) (Obj.cells #[.func (.func 99) #[] #[]] 144)
      have d1 := cell_up (below_cell HBR.out (heap_cell HD.out (j := 1) rfl)) (Obj.cells #[.func (.func 99) #[] #[]] 144)
      have d2 := cell_up (below_cell HBR.out (heap_cell HD.out (j := 2) rfl)) (Obj.cells #[.func (.func 99) #[] #[]] 144)
      have d3 := cell_up (below_cell HBR.out (heap_cell HD.out (j := 3) rfl)) (Obj.cells #[.func (.func 99) #[] #[]] 144)
      have d4 := cell_up (below_cell HBR.out (heap_cell HD.out (j := 4) rfl)) (Obj.cells #[.func (.func 99) #[] #[]] 144)
      go_wp2_with fail
      refine (told4 b lo hi x1 a r x2 t _).mono ?_
      rintro e w3 ⟨l, h, rfl, ht, hb3⟩
      have HT := Lib.hid ht
      have HB3 : Hid (Below wr.heap.size wr w3) := Lib.hid (((Below.refl _ _).alloc (Nat.le_refl _) _).trans (hb3.mono (by simp)))
      obtain ⟨n, hn⟩ : ∃ n, Pure.numOf x1 a r x2 t 4 = n := ⟨_, rfl⟩
      obtain ⟨q, hq⟩ : ∃ q, (decide (l ≤ n) && decide (n ≤ h)) = q := ⟨_, rfl⟩
      have HQ := Lib.hid hq
      have HN := Lib.hid hn
      rw [hn]
      clear ht hb3 c0 c1 c2 d0 d1 d2 d3 d4 i0 i1 i2 i3 i4 hn hq
      go_wp2_with fail
      refine (within1 l h n _ 1 _ (cells_top _ _ _ (by simp) 0) q HQ.out).mono ?_
      rintro e w4 ⟨rfl, rfl⟩
      cases q
      · go_wp2_with fail
        go_ret
        refine ⟨13, rfl, fun h0 h1 => by rw [HM.out.no (by omega) HT.out (by rw [HN.out]; exact HQ.out) h0 h1]; rfl, HM.out.2.trans (Below.mono (HB3.out.trans (Below.mono (?_ : Below w3.heap.size w3 _) HB3.out.size)) HM.out.2.size)⟩
        repeat (first | exact Below.refl _ _ | refine Below.alloc ?_ (by simp; try omega) _ | refine Below.setCell ?_ (by simp; try omega) _)
      · have hbz := fun (v : World) (hv : Below w3.heap.size w3 v) => Below.trans HB3.out (hv.mono HB3.out.size)
        have HBZ := Lib.hid hbz
        clear hbz
        go_wp2_with fail
        go_roundw
        case rel => exact ⟨5, by omega, by go_num, HM.out.yes (by omega) HT.out (by rw [HN.out]; exact HQ.out) (HBZ.out _ (by repeat (first | exact Below.refl _ _ | refine Below.alloc ?_ (by simp; try omega) _ | refine Below.setCell ?_ (by simp; try omega) _))), HBR.out.trans (Below.mono (HBZ.out _ (by repeat (first | exact Below.refl _ _ | refine Below.alloc ?_ (by simp; try omega) _ | refine Below.setCell ?_ (by simp; try omega) _))) HBR.out.size)⟩
        case measure => simp [intOf]
    · clear i0 i1 i2 i3 i4
      go_wp2_with fail
      go_ret
      exact ⟨0, rfl, fun h0 h1 => by rw [Pure.okDouble_all (HM.out.1 h0 h1)]; rfl, HM.out.2⟩

end Go.Proofs.YtjegkkpdemoldaaGreatDoor

namespace Go.Proofs.YtjegkkpdemoldaaGreatDoor
open Go.RowKit Go.Shelf

namespace Pure
def twiceE (b lo hi x1 a r x2 t d : Int) : Int := first3 (err (okCargo b lo hi) 10) (err (okDouble b x1 a r x2 t) 13) (err (okIn lo hi d) 2)
def twiceV (b lo hi x1 a r x2 t d : Int) : Value :=
  if twiceE b lo hi x1 a r x2 t d = 0 then .tuple #[partV (taken b d x1 a r x2 t) (sets b x1 * sets (b - x1) x2), partV (opens b d x1 a r x2) (sets b x1), .int .i64 0]
  else .tuple #[.agg #[.int .i64 0, .int .i64 0], .agg #[.int .i64 0, .int .i64 0], .int .i64 (twiceE b lo hi x1 a r x2 t d)]
theorem twiceV_zero {b lo hi x1 a r x2 t d : Int} (h : twiceE b lo hi x1 a r x2 t d = 0) : twiceV b lo hi x1 a r x2 t d = .tuple #[partV (taken b d x1 a r x2 t) (sets b x1 * sets (b - x1) x2), partV (opens b d x1 a r x2) (sets b x1), .int .i64 0] := if_pos h
theorem twiceV_err {b lo hi x1 a r x2 t d : Int} (h : twiceE b lo hi x1 a r x2 t d ≠ 0) : twiceV b lo hi x1 a r x2 t d = .tuple #[.agg #[.int .i64 0, .int .i64 0], .agg #[.int .i64 0, .int .i64 0], .int .i64 (twiceE b lo hi x1 a r x2 t d)] := if_neg h
theorem first3_mid {b lo hi c k z : Int} (h : 0 ≤ b → b ≤ 36 → c = k) : first3 (err (okCargo b lo hi) 10) c z = first3 (err (okCargo b lo hi) 10) k z := by
  cases e : okCargo b lo hi with
  | true =>
    have q := e
    unfold okCargo at q
    rw [decide_eq_true_eq] at q
    rw [h (by omega) q.2.1]
  | false => rfl
end Pure

theorem firstError3' (a b c : Int) (s cap : Nat) (w : World) (h0 : w.cell? ⟨s, 0, none⟩ = some (.int .i64 a)) (h1 : w.cell? ⟨s, 1, none⟩ = some (.int .i64 b)) (h2 : w.cell? ⟨s, 2, none⟩ = some (.int .i64 c)) {k : Int} (hk : Pure.first3 a b c = k) :
    Calls Tryz.prog 32 #[.slice (some ⟨s, 0, none⟩) 3 cap] w fun e w' => e = .returned (.int .i64 k) ∧ Below w.heap.size w w' := by
  rw [← hk]; exact firstError3 a b c s cap w h0 h1 h2

set_option maxHeartbeats 4000000 in
set_option maxRecDepth 100000 in
/-- **Twice**. -/
theorem twice_top (b lo hi x1 a r x2 t d : Int) (w : World) :
    Calls Tryz.prog 28 #[cargoV b lo hi, doubleV x1 a r x2 t, .int .i64 d] w fun e w' => e = .returned (Pure.twiceV b lo hi x1 a r x2 t d) ∧ Below w.heap.size w w' := by
  go_enter Tryz.func28, Tryz.ntmps28
  go_upto_region 1 with fail
  obtain ⟨W1, hW1⟩ : ∃ W1, (((w.alloc (.cells #[.int .i64 b, .int .i64 lo, .int .i64 hi] 28)).alloc (.cells #[.int .i64 x1, .int .i64 a, .int .i64 r, .int .i64 x2, .int .i64 t] 71)).alloc (.cells #[.int .i64 0, .int .i64 0] 31)).alloc (.cells #[.int .i64 0, .int .i64 0] 31) = W1 := ⟨_, rfl⟩
  have hB1 : Below w.heap.size w W1 := by rw [← hW1]; exact ((((Below.refl _ _).alloc (Nat.le_refl _) _).alloc (by simp) _).alloc (by simp; omega) _).alloc (by simp; omega) _
  have hsz : W1.heap.size = w.heap.size + 4 := by rw [← hW1]; simp
  have hc : W1.heap[w.heap.size]? = some (.cells #[.int .i64 b, .int .i64 lo, .int .i64 hi] 28) := by rw [← hW1]; exact heap_up (heap_up (heap_up (heap_top _ _ rfl) _) _) _
  have hd : W1.heap[w.heap.size + 1]? = some (.cells #[.int .i64 x1, .int .i64 a, .int .i64 r, .int .i64 x2, .int .i64 t] 71) := by rw [← hW1]; exact heap_up (heap_up (heap_top _ _ (by simp)) _) _
  have hp : W1.heap[w.heap.size + 1 + 1]? = some (.cells #[.int .i64 0, .int .i64 0] 31) := by rw [← hW1]; exact heap_up (heap_top _ _ (by simp)) _
  have hq : W1.heap[w.heap.size + 1 + 1 + 1]? = some (.cells #[.int .i64 0, .int .i64 0] 31) := by rw [← hW1]; exact heap_top _ _ (by simp)
  rw [hW1]
  have HB1 := Lib.hid hB1
  have HSZ := Lib.hid hsz
  have HC := Lib.hid hc
  have HD := Lib.hid hd
  have HP := Lib.hid hp
  have HQ := Lib.hid hq
  clear hW1 hB1 hsz hc hd hp hq
  obtain ⟨S, hS⟩ : ∃ S : World → Prop, S = fun v => v.cell? ⟨w.heap.size, 0, none⟩ = some (.int .i64 b) ∧ v.cell? ⟨w.heap.size, 1, none⟩ = some (.int .i64 lo) ∧ v.cell? ⟨w.heap.size, 2, none⟩ = some (.int .i64 hi) ∧ v.cell? ⟨w.heap.size + 1, 0, none⟩ = some (.int .i64 x1) ∧ v.cell? ⟨w.heap.size + 1, 1, none⟩ = some (.int .i64 a) ∧ v.cell? ⟨w.heap.size + 1, 2, none⟩ = some (.int .i64 r) ∧ v.cell? ⟨w.heap.size + 1, 3, none⟩ = some (.int .i64 x2) ∧ v.cell? ⟨w.heap.size + 1, 4, none⟩ = some (.int .i64 t) ∧ Below W1.heap.size W1 v := ⟨_, rfl⟩
  have HK : Hid (∀ v : World, Below W1.heap.size W1 v → (v.cell? ⟨w.heap.size, 0, none⟩ = some (.int .i64 b) ∧ v.cell? ⟨w.heap.size, 1, none⟩ = some (.int .i64 lo) ∧ v.cell? ⟨w.heap.size, 2, none⟩ = some (.int .i64 hi) ∧ v.cell? ⟨w.heap.size + 1, 0, none⟩ = some (.int .i64 x1) ∧ v.cell? ⟨w.heap.size + 1, 1, none⟩ = some (.int .i64 a) ∧ v.cell? ⟨w.heap.size + 1, 2, none⟩ = some (.int .i64 r) ∧ v.cell? ⟨w.heap.size + 1, 3, none⟩ = some (.int .i64 x2) ∧ v.cell? ⟨w.heap.size + 1, 4, none⟩ = some (.int .i64 t) ∧ Below W1.heap.size W1 v)) :=
    Lib.hid (fun v k => ⟨below_cell k (heap_cell HC.out (j := 0) rfl), below_cell k (heap_cell HC.out (j := 1) rfl), below_cell k (heap_cell HC.out (j := 2) rfl), below_cell k (heap_cell HD.out (j := 0) rfl), below_cell k (heap_cell HD.out (j := 1) rfl), below_cell k (heap_cell HD.out (j := 2) rfl), below_cell k (heap_cell HD.out (j := 3) rfl), below_cell k (heap_cell HD.out (j := 4) rfl), k⟩)
  clear S hS
  go_cut [9] (fun s wx => s = .int .i64 (Pure.twiceE b lo hi x1 a r x2 t d) ∧ Below W1.heap.size W1 wx)
  case first =>
    go_region_held3 (fun v => v.cell? ⟨w.heap.size, 0, none⟩ = some (.int .i64 b) ∧ v.cell? ⟨w.heap.size, 1, none⟩ = some (.int .i64 lo) ∧ v.cell? ⟨w.heap.size, 2, none⟩ = some (.int .i64 hi) ∧ v.cell? ⟨w.heap.size + 1, 0, none⟩ = some (.int .i64 x1) ∧ v.cell? ⟨w.heap.size + 1, 1, none⟩ = some (.int .i64 a) ∧ v.cell? ⟨w.heap.size + 1, 2, none⟩ = some (.int .i64 r) ∧ v.cell? ⟨w.heap.size + 1, 3, none⟩ = some (.int .i64 x2) ∧ v.cell? ⟨w.heap.size + 1, 4, none⟩ = some (.int .i64 t) ∧ Below W1.heap.size W1 v)
      (first | exact HK.out _ (Below.refl _ _).drew | exact HK.out _ (Below.trans (And.right (And.right (And.right (And.right (And.right (And.right (And.right (And.right (by assumption))))))))) (Below.mono (by assumption) (Below.size (And.right (And.right (And.right (And.right (And.right (And.right (And.right (And.right (by assumption)))))))))))) | exact HK.out _ (Below.alloc (And.right (And.right (And.right (And.right (And.right (And.right (And.right (And.right (by assumption))))))))) (Below.size (And.right (And.right (And.right (And.right (And.right (And.right (And.right (And.right (by assumption)))))))))) _))
      (first
        | (go_at_call 29; refine (check_any _ _ _ _).mono ?_; rintro e w' ⟨rfl, hb⟩)
        | (go_at_call 64; refine (checkDouble_any _ _ _ _ _ _ _ _ _).mono ?_; rintro e w' ⟨code, rfl, hcode, hb⟩; have HCODE := Lib.hid hcode; clear hcode)
        | (go_at_call 33; refine (checkDirty1 _ _ _ d _ _ _ ?_).mono ?_; (first | exact cell_top _ _ _ rfl | (refine below_cell (by assumption) ?_; (first | exact cell_top _ _ _ rfl | exact cell_top_drew _ _ _ rfl | (refine below_cell (by assumption) ?_; (first | exact cell_top _ _ _ rfl | exact cell_top_drew _ _ _ rfl))))); rintro e w' ⟨rfl, hb⟩)
        | (go_at_call 32; refine (firstError3' _ _ _ _ _ _ (cells_top _ _ _ rfl 0) (cells_top _ _ _ rfl 1) (cells_top _ _ _ rfl 2) (Pure.first3_mid HCODE.out)).mono ?_; rintro e w' ⟨rfl, hb⟩))
    all_goals (go_wp2_with fail; go_meet; refine ⟨rfl, ?_⟩; exact And.right (And.right (And.right (And.right (And.right (And.right (And.right (And.right (by assumption)))))))))
  case rest =>
    obtain ⟨rfl, hBc⟩ := hcut
    obtain ⟨code, hcode⟩ : ∃ c, Pure.twiceE b lo hi x1 a r x2 t d = c := ⟨_, rfl⟩
    rw [hcode]
    have p0 := below_cell hBc (heap_cell HP.out (j := 0) rfl)
    have p1 := below_cell hBc (heap_cell HP.out (j := 1) rfl)
    have q0 := below_cell hBc (heap_cell HQ.out (j := 0) rfl)
    have q1 := below_cell hBc (heap_cell HQ.out (j := 1) rfl)
    have f0 := below_frozen hBc (heap_cell HP.out (j := 0) rfl) (heap_frozen HP.out 0)
    have f1 := below_frozen hBc (heap_cell HP.out (j := 1) rfl) (heap_frozen HP.out 1)
    have e0 := below_frozen hBc (heap_cell HQ.out (j := 0) rfl) (heap_frozen HQ.out 0)
    have e1 := below_frozen hBc (heap_cell HQ.out (j := 1) rfl) (heap_frozen HQ.out 1)
    have HBC := Lib.hid hBc
    have HCODE := Lib.hid hcode
    clear hBc hcode HK
    by_cases h0 : code = 0
    · subst h0
      obtain ⟨k1, k2, k3⟩ := Pure.first3_zero HCODE.out
      have k1 := Pure.err_zero k1 (by decide)
      have k2 := Pure.err_zero k2 (by decide)
      have k3 := Pure.err_zero k3 (by decide)
      unfold Pure.okCargo at k1
      unfold Pure.okDouble at k2
      unfold Pure.okIn at k3
      simp only [decide_eq_true_eq] at k1 k2 k3
      obtain ⟨b1, b2, b3, b4, b5⟩ := k1
      obtain ⟨o1, o2, o3, o4, o5, o6, o7, o8, o9, o10⟩ := k2
      obtain ⟨d1, d2⟩ := k3
      have c0 := below_cell HBC.out (heap_cell HC.out (j := 0) rfl)
      have c1 := below_cell HBC.out (heap_cell HC.out (j := 1) rfl)
      have c2 := below_cell HBC.out (heap_cell HC.out (j := 2) rfl)
      have g0 := below_cell HBC.out (heap_cell HD.out (j := 0) rfl)
      have g1 := below_cell HBC.out (heap_cell HD.out (j := 1) rfl)
      have g2 := below_cell HBC.out (heap_cell HD.out (j := 2) rfl)
      have g3 := below_cell HBC.out (heap_cell HD.out (j := 3) rfl)
      have g4 := below_cell HBC.out (heap_cell HD.out (j := 4) rfl)
      go_wp2_with fail
      refine (work_any b lo hi _).mono ?_
      rintro e w2 ⟨M, T, C, rfl, hMw, hw2, hB2⟩
      have y0 := below_cell hB2 g0
      have y1 := below_cell hB2 g1
      have y2 := below_cell hB2 g2
      have y3 := below_cell hB2 g3
      have y4 := below_cell hB2 g4
      have n0 := below_cell hB2 p0
      have n1 := below_cell hB2 p1
      have n2 := below_cell hB2 q0
      have n3 := below_cell hB2 q1
      have l0 := below_frozen hB2 p0 f0
      have l1 := below_frozen hB2 p1 f1
      have l2 := below_frozen hB2 q0 e0
      have l3 := below_frozen hB2 q1 e1
      have HMW := Lib.hid hMw
      have HB2 := Lib.hid hB2
      have HW2 := Lib.hid hw2
      clear hMw hB2 hw2 c0 c1 c2 g0 g1 g2 g3 g4 p0 p1 q0 q1 f0 f1 e0 e1
      go_wp2_with fail
      obtain ⟨W2, hW2⟩ : ∃ W2, w2.alloc (.cells #[.int .i64 b, .int .i64 lo, .int .i64 hi, setsV T C] 82) = W2 := ⟨_, rfl⟩
      have HS2 : Hid (Step M w2 W2) := by rw [← hW2]; exact Lib.hid ((Step.refl HW2.out.memo).alloc _)
      have HW3 : Hid (Cnt W2 M T C) := Lib.hid (HW2.out.step HS2.out)
      have e : ∀ j v, (#[Value.int .i64 b, .int .i64 lo, .int .i64 hi, setsV T C])[j]? = some v → W2.cell? ⟨w2.heap.size, j, none⟩ = some v := by rw [← hW2]; intro j v h; exact (cells_top _ _ _ rfl j).trans h
      rw [hW2]
      have hm := HW2.out.memo
      have x0 := among_cell HW3.out.memo (e 0 _ rfl)
      have x1' := among_cell HW3.out.memo (e 1 _ rfl)
      have x2' := among_cell HW3.out.memo (e 2 _ rfl)
      have x3 := among_cell HW3.out.memo (e 3 _ rfl)
      have z0 := among_cell HW3.out.memo (HS2.out.cell y0 (cell_not_map hm y0))
      have z1 := among_cell HW3.out.memo (HS2.out.cell y1 (cell_not_map hm y1))
      have z2 := among_cell HW3.out.memo (HS2.out.cell y2 (cell_not_map hm y2))
      have z3 := among_cell HW3.out.memo (HS2.out.cell y3 (cell_not_map hm y3))
      have z4 := among_cell HW3.out.memo (HS2.out.cell y4 (cell_not_map hm y4))
      have N0 := Lib.hid (HS2.out.cell n0 (cell_not_map hm n0))
      have N1 := Lib.hid (HS2.out.cell n1 (cell_not_map hm n1))
      have N2 := Lib.hid (HS2.out.cell n2 (cell_not_map hm n2))
      have N3 := Lib.hid (HS2.out.cell n3 (cell_not_map hm n3))
      have L0 := Lib.hid (HS2.out.frozen n0 (cell_not_map hm n0) l0)
      have L1 := Lib.hid (HS2.out.frozen n1 (cell_not_map hm n1) l1)
      have L2 := Lib.hid (HS2.out.frozen n2 (cell_not_map hm n2) l2)
      have L3 := Lib.hid (HS2.out.frozen n3 (cell_not_map hm n3) l3)
      clear hW2 e hm y0 y1 y2 y3 y4 n0 n1 n2 n3 l0 l1 l2 l3
      have HC1 : Hid (∀ x : Among (Step M W2), Calls Tryz.prog 65 #[holdV b lo hi T C, doubleV x1 a r x2 t, .int .i64 d] x.val fun e w' => e = .returned (partV (Pure.taken b d x1 a r x2 t) (Pure.sets b x1 * Pure.sets (b - x1) x2)) ∧ ∃ y : Among (Step M W2), w' = y.val) :=
        Lib.hid (fun x => calls_class ((taken_any b lo hi d x1 a r x2 t (by omega) b2 (by omega) (by omega) (by omega) (by omega) (by omega) (by omega) (by omega) (by omega) x.val (HW3.out.step x.ok)).mono fun e w' h => ⟨h.1, x.ok.trans h.2⟩))
      have HC2 : Hid (∀ x : Among (Step M W2), Calls Tryz.prog 66 #[holdV b lo hi T C, doubleV x1 a r x2 t, .int .i64 d] x.val fun e w' => e = .returned (partV (Pure.opens b d x1 a r x2) (Pure.sets b x1)) ∧ ∃ y : Among (Step M W2), w' = y.val) :=
        Lib.hid (fun x => calls_class ((opens_any b lo hi d x1 a r x2 t (by omega) b2 (by omega) (by omega) (by omega) (by omega) (by omega) (by omega) x.val (HW3.out.step x.ok)).mono fun e w' h => ⟨h.1, x.ok.trans h.2⟩))
      have HSt : Hid (Step M W2 W2.drew) := Lib.hid (Step.refl HW3.out.memo).drew
      have hne : Nonempty (Among (Step M W2)) := ⟨⟨_, HSt.out⟩⟩
      refine wp_region_tail 8 (Step M W2) (by kernel_rfl) (by kernel_rfl) HSt.out ?_
      simp only [List.take_succ_cons, List.take_zero, List.drop_succ_cons, List.drop_zero]
      repeat (go_big_quiet_step ((first | (go_at_call 65; with_reducible exact HC1.out _) | (go_at_call 66; with_reducible exact HC2.out _))))
      refine wpQuiet_nil ?_
      intro w3 hx
      have hS3 := among_out hx
      clear hx
      have r0 := hS3.cell N0.out (cell_not_map HW3.out.memo N0.out)
      have r1 := hS3.cell N1.out (cell_not_map HW3.out.memo N1.out)
      have r2 := hS3.cell N2.out (cell_not_map HW3.out.memo N2.out)
      have r3 := hS3.cell N3.out (cell_not_map HW3.out.memo N3.out)
      have f0 := hS3.frozen N0.out (cell_not_map HW3.out.memo N0.out) L0.out
      have f1 := hS3.frozen N1.out (cell_not_map HW3.out.memo N1.out) L1.out
      have f2 := hS3.frozen N2.out (cell_not_map HW3.out.memo N2.out) L2.out
      have f3 := hS3.frozen N3.out (cell_not_map HW3.out.memo N3.out) L3.out
      have HS3 := Lib.hid hS3
      clear hS3 hne x0 x1' x2' x3 z0 z1 z2 z3 z4
      go_wp2_with fail
      refine bodyPost_ret (v := .tuple #[partV (Pure.taken b d x1 a r x2 t) (Pure.sets b x1 * Pure.sets (b - x1) x2), partV (Pure.opens b d x1 a r x2) (Pure.sets b x1), .int .i64 0]) (by simp [results, Tryz.results28, go_sem, r0, r1, r2, r3]) rfl ⟨?_, ?_⟩
      · rw [Pure.twiceV_zero HCODE.out]
      · have z1 := HSZ.out
        have z2 := HBC.out.size
        have z3 := HB2.out.size
        have z4 := HMW.out
        have hB : Below w.heap.size w w3 := below_step ((HB1.out.trans (HBC.out.mono (by omega))).trans (HB2.out.mono (by omega))) (HS2.out.trans HS3.out) (by omega) (by omega)
        exact (((hB.setCell (p := ⟨w.heap.size + 1 + 1, 0, none⟩) (by simp; omega) _).setCell (p := ⟨w.heap.size + 1 + 1, 1, none⟩) (by simp; omega) _).setCell (p := ⟨w.heap.size + 1 + 1 + 1, 0, none⟩) (by simp; omega) _).setCell (p := ⟨w.heap.size + 1 + 1 + 1, 1, none⟩) (by simp; omega) _
    · have hne : (code != 0) = true := by simpa using h0
      have H0 := Lib.hid h0
      clear h0
      go_wp2_with fail
      refine bodyPost_ret (v := .tuple #[.agg #[.int .i64 0, .int .i64 0], .agg #[.int .i64 0, .int .i64 0], .int .i64 code]) (by simp [results, Tryz.results28, go_sem, p0, p1, q0, q1]) rfl ⟨?_, ?_⟩
      · rw [Pure.twiceV_err (by rw [HCODE.out]; exact H0.out), HCODE.out]
      · have z1 := HSZ.out
        exact ((((HB1.out.trans (HBC.out.mono (by omega))).setCell (p := ⟨w.heap.size + 1 + 1, 0, none⟩) (by simp; omega) _).setCell (p := ⟨w.heap.size + 1 + 1, 1, none⟩) (by simp; omega) _).setCell (p := ⟨w.heap.size + 1 + 1 + 1, 0, none⟩) (by simp; omega) _).setCell (p := ⟨w.heap.size + 1 + 1 + 1, 1, none⟩) (by simp; omega) _

end Go.Proofs.YtjegkkpdemoldaaGreatDoor
