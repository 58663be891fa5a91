/-
  The contracts of inOrder, and of what a tank holds at an eighth.
-/
import Derived.Test.YtpgpebgimmaobaaTSmall
import Derived.IntWalk
namespace Go.Proofs.Ytpgpebgimmaobaa
open Go.RowKit

theorem ordered_upto {F : Nat → Int} {k : Nat} (h : Pure.Ordered k F) (h1 : 1 ≤ k) (h2 : F (k - 1) < F k) : Pure.Ordered (k + 1) F := fun i hi h3 => by
  by_cases e : i = k
  · subst e; exact h2
  · exact h i (by omega) h3
set_option maxHeartbeats 1000000 in
set_option maxRecDepth 100000 in
/-- **inOrder**. -/
theorem inOrder_any (a : Option Addr) (len cap : Nat) (F : Nat → Int) (h1 : 1 ≤ len) (hl : len ≤ 40) (w : World) (h : NumsAt w a len F) :
    Calls Try.prog 32 #[.slice a len cap] w fun e w' => e = .returned (.bool (decide (Pure.Ordered len F))) ∧ Below w.heap.size w w' := by
  obtain ⟨b, off, rfl⟩ := h.some (by omega)
  have HN := Lib.hid h
  clear h
  go_enter Try.func32, Try.ntmps32
  go_wp2_with fail
  go_loopw [3] (fun i wr => ∃ k : Nat, 1 ≤ k ∧ k ≤ len ∧ i = .int .i64 k ∧ Pure.Ordered k F ∧ Below w.heap.size w wr) (fun i _ => len - (intOf i).toNat)
  case atStart => exact ⟨1, by omega, by omega, rfl, fun i hi h2 => absurd hi (by omega), Below.refl _ _⟩
  case round =>
    obtain ⟨k, hk1, hk, rfl, ho, hB⟩ := hrel
    have HO := Lib.hid ho
    have HB := Lib.hid hB
    clear ho
    by_cases hlt : k < len
    · obtain ⟨j, rfl⟩ : ∃ j, k = j + 1 := ⟨k - 1, by omega⟩
      have c1 := below_cell hB (HN.out.at hlt)
      have c0 := below_cell hB (HN.out.at (show j < len by omega))
      clear hB
      go_wp2_with fail
      have e1 : IntKind.i64.wrap (((j + 1 : Nat) : Int) - 1) = (j : Int) := (IntWalk.i64_in _ (by omega)).trans (by omega)
      have e2 : ((j + 1 : Nat) : Int) < len := by omega
      have e3 : (j : Int) < len := by omega
      have x0 := among_below c0
      have x1 := among_below c1
      have HSt : Hid (Below wr.heap.size wr wr.drew) := Lib.hid (Below.refl _ _).drew
      have hne : Nonempty (Among (Below wr.heap.size wr)) := ⟨⟨_, HSt.out⟩⟩
      clear c0 c1
      refine wp_region_class (Below wr.heap.size wr) (by kernel_rfl) (by kernel_rfl) HSt.out ?_
      repeat (go_big_quiet_step (fail))
      refine wpQuiet_nil ?_
      intro w3 hx
      have HB3 : Hid (Below w.heap.size w w3) := Lib.hid (below_thn HB.out (among_out hx))
      clear hx hne x0 x1
      by_cases hF : F j < F (j + 1)
      · go_wp2_with fail
        go_roundw
        case rel => exact ⟨j + 1 + 1, by omega, by omega, by go_num, ordered_upto HO.out (by omega) (by simpa using hF), HB3.out⟩
        case measure => simp [intOf]; omega
      · go_wp2_with fail
        go_ret
        exact ⟨ret_bool (decide_eq_false (fun g => by have g1 := g (j + 1) hlt (by omega); rw [Nat.add_sub_cancel] at g1; omega)).symm, HB3.out⟩
    · obtain rfl : k = len := by omega
      clear hB
      go_wp2_with fail
      go_ret
      exact ⟨ret_bool (decide_eq_true HO.out).symm, HB.out⟩
set_option maxHeartbeats 1000000 in
set_option maxRecDepth 100000 in
/-- **volume**. -/
theorem volume_any (a : Option Addr) (len cap : Nat) (F : Nat → Int) (lk ft e : Int) (hok : Pure.OkTank len F lk ft) (e0 : 0 ≤ e) (e1 : e ≤ 8 * ((len : Int) - 1)) (w : World) (h : NumsAt w a len F) :
    Calls Try.prog 18 #[tankV a len cap lk ft, .int .i64 e] w fun x w' => x = .returned (.int .i64 (Pure.vol F e)) ∧ Below w.heap.size w w' := by
  have hlen := hok.1
  obtain ⟨b, off, rfl⟩ := h.some (by omega)
  obtain ⟨i, hi⟩ : ∃ i : Nat, e / 8 = i := ⟨(e / 8).toNat, by omega⟩
  have hti : (e / 8).toNat = i := by omega
  have e2 : e ≤ 160 := by omega
  have hil : (i : Int) < len := by omega
  obtain ⟨t0, t1⟩ := Pure.table_ge hok (i := i) (by omega)
  have HC := Lib.hid (cell_up (h.at (show i < len by omega)) (tankB (some ⟨b, off, none⟩) len cap lk ft))
  obtain ⟨r, hr⟩ : ∃ r, e % 8 = r := ⟨_, rfl⟩
  have r0 : 0 ≤ r := by omega
  have r1 : r ≤ 7 := by omega
  obtain ⟨f, hf⟩ : ∃ f, F i = f := ⟨_, rfl⟩
  have HV : Hid (Pure.vol F e = 8 * f + (if 0 < r then r * (F (i + 1) - f) else 0)) := Lib.hid (by unfold Pure.vol; rw [hti, hr, hf])
  rw [hf] at t0 t1 HC
  clear hti
  by_cases hp : 0 < r
  · have hil1 : ((i : Int) + 1) < len := by omega
    obtain ⟨t2, t3⟩ := Pure.table_ge hok (i := i + 1) (by omega)
    have t4 := Pure.ordered_lt hok.2.1.2.1 (i := i) (j := i + 1) (by omega) (by omega)
    have HD := Lib.hid (cell_up (h.at (show i + 1 < len by omega)) (tankB (some ⟨b, off, none⟩) len cap lk ft))
    obtain ⟨g, hg⟩ : ∃ g, F (i + 1) = g := ⟨_, rfl⟩
    rw [hg] at t2 t3 t4 HV HD
    rw [hf] at t4
    have q2 : IntKind.i64.wrap ((i : Int) + 1) = (i : Int) + 1 := IntWalk.i64_in _ (by omega)
    have q3 : ((i : Int) + 1).toNat = i + 1 := by omega
    have c0 := HC.out
    have c1 := HD.out
    clear hf hg h hok hlen
    go_enter Try.func18, Try.ntmps18
    go_wp2_with fail
    rw [hi, hr]
    obtain ⟨W1, hW1⟩ : ∃ W, w.alloc (tankB (some ⟨b, off, none⟩) len cap lk ft) = W := ⟨_, rfl⟩
    have m1 := Int.mul_le_mul_of_nonneg_right (show r ≤ 8 by omega) (show 0 ≤ g - f by omega)
    have m2 := Int.mul_nonneg r0 (show 0 ≤ g - f by omega)
    have q4 : IntKind.i64.wrap (g - f) = g - f := IntWalk.i64_in _ (by omega)
    have q5 : IntKind.i64.wrap (r * (g - f)) = r * (g - f) := IntWalk.i64_in _ (by omega)
    have q6 : IntKind.i64.wrap (8 * f + r * (g - f)) = 8 * f + r * (g - f) := IntWalk.i64_in _ (by omega)
    have hb1 : W1.heap[w.heap.size]? = some (tankB (some ⟨b, off, none⟩) len cap lk ft) := by rw [← hW1]; exact heap_top _ _ rfl
    rw [hW1] at c0 c1
    rw [hW1]
    have HB1 : Hid (Below w.heap.size w W1) := Lib.hid (by rw [← hW1]; exact below_new _ _)
    have x0 := among_below c0
    have x1 := among_below c1
    have x2 := among_below (heap_cell hb1 (j := 0) rfl)
    have HSt : Hid (Below W1.heap.size W1 W1.drew) := Lib.hid (Below.refl _ _).drew
    have hne : Nonempty (Among (Below W1.heap.size W1)) := ⟨⟨_, HSt.out⟩⟩
    have HI := Lib.hid hi
    have HR := Lib.hid hr
    clear c0 c1 hb1 hW1 m1 m2 hi hr
    refine wp_region_class (Below W1.heap.size W1) (by kernel_rfl) (by kernel_rfl) HSt.out ?_
    repeat (go_big_quiet_step (fail))
    refine wpQuiet_nil ?_
    intro w3 hx
    have HB3 : Hid (Below w.heap.size w w3) := Lib.hid (below_thn HB1.out (among_out hx))
    clear hx hne x0 x1 x2 q2 q3 q4 q5 q6
    go_wp2_with fail
    go_ret
    exact ⟨ret_int (by rw [HV.out, if_pos hp]), HB3.out⟩
  · have c0 := HC.out
    clear hf h hok hlen
    go_enter Try.func18, Try.ntmps18
    go_wp2_with fail
    go_ret
    exact ⟨ret_int (by rw [HV.out, if_neg (by omega), Int.add_zero]), below_new _ _⟩

set_option maxHeartbeats 1000000 in
set_option maxRecDepth 100000 in
/-- **Eight**. -/
theorem rEight_any (a : Option Addr) (len cap : Nat) (F : Nat → Int) (lk ft e : Int) (hok : Pure.OkTank len F lk ft) (e0 : 0 ≤ e) (e1 : e ≤ 8 * ((len : Int) - 1)) (w : World) (h : NumsAt w a len F) :
    Calls Try.prog 23 #[tankV a len cap lk ft, .int .i64 e] w fun x w' => x = .returned (.int .i64 (Pure.vol F e)) ∧ Below w.heap.size w w' := by
  have hlen := hok.1
  obtain ⟨b, off, rfl⟩ := h.some (by omega)
  obtain ⟨i, hi⟩ : ∃ i : Nat, e / 8 = i := ⟨(e / 8).toNat, by omega⟩
  have hti : (e / 8).toNat = i := by omega
  have e2 : e ≤ 160 := by omega
  have hil : (i : Int) < len := by omega
  obtain ⟨t0, t1⟩ := Pure.table_ge hok (i := i) (by omega)
  have HC := Lib.hid (cell_up (h.at (show i < len by omega)) (tankB (some ⟨b, off, none⟩) len cap lk ft))
  obtain ⟨r, hr⟩ : ∃ r, e % 8 = r := ⟨_, rfl⟩
  have r0 : 0 ≤ r := by omega
  have r1 : r ≤ 7 := by omega
  obtain ⟨f, hf⟩ : ∃ f, F i = f := ⟨_, rfl⟩
  have HV : Hid (Pure.vol F e = 8 * f + (if 0 < r then r * (F (i + 1) - f) else 0)) := Lib.hid (by unfold Pure.vol; rw [hti, hr, hf])
  rw [hf] at t0 t1 HC
  clear hti
  by_cases hp : 0 < r
  · have hil1 : ((i : Int) + 1) < len := by omega
    obtain ⟨t2, t3⟩ := Pure.table_ge hok (i := i + 1) (by omega)
    have t4 := Pure.ordered_lt hok.2.1.2.1 (i := i) (j := i + 1) (by omega) (by omega)
    have HD := Lib.hid (cell_up (h.at (show i + 1 < len by omega)) (tankB (some ⟨b, off, none⟩) len cap lk ft))
    obtain ⟨g, hg⟩ : ∃ g, F (i + 1) = g := ⟨_, rfl⟩
    rw [hg] at t2 t3 t4 HV HD
    rw [hf] at t4
    have q2 : IntKind.i64.wrap ((i : Int) + 1) = (i : Int) + 1 := IntWalk.i64_in _ (by omega)
    have q3 : ((i : Int) + 1).toNat = i + 1 := by omega
    have c0 := HC.out
    have c1 := HD.out
    clear hf hg h hok hlen
    go_enter Try.func23, Try.ntmps23
    go_wp2_with fail
    rw [hi, hr]
    obtain ⟨W1, hW1⟩ : ∃ W, w.alloc (tankB (some ⟨b, off, none⟩) len cap lk ft) = W := ⟨_, rfl⟩
    have m1 := Int.mul_le_mul_of_nonneg_right (show r ≤ 8 by omega) (show 0 ≤ g - f by omega)
    have m2 := Int.mul_nonneg r0 (show 0 ≤ g - f by omega)
    have q4 : IntKind.i64.wrap (g - f) = g - f := IntWalk.i64_in _ (by omega)
    have q5 : IntKind.i64.wrap (r * (g - f)) = r * (g - f) := IntWalk.i64_in _ (by omega)
    have q6 : IntKind.i64.wrap (8 * f + r * (g - f)) = 8 * f + r * (g - f) := IntWalk.i64_in _ (by omega)
    have hb1 : W1.heap[w.heap.size]? = some (tankB (some ⟨b, off, none⟩) len cap lk ft) := by rw [← hW1]; exact heap_top _ _ rfl
    rw [hW1] at c0 c1
    rw [hW1]
    have HB1 : Hid (Below w.heap.size w W1) := Lib.hid (by rw [← hW1]; exact below_new _ _)
    have x0 := among_below c0
    have x1 := among_below c1
    have x2 := among_below (heap_cell hb1 (j := 0) rfl)
    have HSt : Hid (Below W1.heap.size W1 W1.drew) := Lib.hid (Below.refl _ _).drew
    have hne : Nonempty (Among (Below W1.heap.size W1)) := ⟨⟨_, HSt.out⟩⟩
    have HI := Lib.hid hi
    have HR := Lib.hid hr
    clear c0 c1 hb1 hW1 m1 m2 hi hr
    refine wp_region_class (Below W1.heap.size W1) (by kernel_rfl) (by kernel_rfl) HSt.out ?_
    repeat (go_big_quiet_step (fail))
    refine wpQuiet_nil ?_
    intro w3 hx
    have HB3 : Hid (Below w.heap.size w w3) := Lib.hid (below_thn HB1.out (among_out hx))
    clear hx hne x0 x1 x2 q2 q3 q4 q5 q6
    go_wp2_with fail
    go_ret
    exact ⟨ret_int (by rw [HV.out, if_pos hp]), HB3.out⟩
  · have c0 := HC.out
    clear hf h hok hlen
    go_enter Try.func23, Try.ntmps23
    go_wp2_with fail
    go_ret
    exact ⟨ret_int (by rw [HV.out, if_neg (by omega), Int.add_zero]), below_new _ _⟩

end Go.Proofs.Ytpgpebgimmaobaa
