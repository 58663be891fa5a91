/-
  WheelTells: the specification's copies and comparisons, and the law's walk.
-/
import Derived.Test.YtacdbjandcdejaaGSame
namespace Go.Proofs.Ytacdbjandcdejaa
open Go.RowKit

theorem rGreat_anyG (a : Option Addr) (n c : Nat) (w : World) : Calls Try.prog 5 #[wheelsV a n c] w fun e w' => e = .returned (.bool (decide ((20 : Int) < n))) ∧ Below w.heap.size w w' := by
  go_enter Try.func5, Try.ntmps5
  go_wp2_with fail
  go_ret
  exact ⟨rfl, below_new _ _⟩
/-- What TwinWheels answers. -/
def TwinOut (n : Nat) (F : Nat → Int) (w : World) (e : Ending) (w' : World) : Prop := ∃ a' c', e = .returned (wheelsV a' n c') ∧ OwnNums w' w.heap.size 3 1 a' n c' F ∧ Below w.heap.size w w'
set_option maxHeartbeats 4000000 in
set_option maxRecDepth 100000 in
theorem rTwin_any (a : Option Addr) (n c : Nat) (F : Nat → Int) (hn : n ≤ 20) (hnil : a = none → n = 0) (w : World) (hF : NumsAt w a n F) :
    Calls Try.prog 7 #[wheelsV a n c] w (TwinOut n F w) := by
  obtain ⟨W, hW⟩ : ∃ W, (w.alloc (wheelsB a n c)).alloc (wheelsB none 0 0) = W := ⟨_, rfl⟩
  have HB0 : Hid (Below w.heap.size w W) := Lib.hid (by rw [← hW]; exact (below_new _ _).alloc (by simp) _)
  have HX : Hid (W.heap[w.heap.size]? = some (wheelsB a n c)) := Lib.hid (by rw [← hW]; exact heap_up (heap_top _ _ rfl) _)
  have HT : Hid (W.heap[w.heap.size + 1]? = some (wheelsB none 0 0)) := Lib.hid (by rw [← hW]; exact heap_top _ _ (by simp))
  have HZ : Hid (W.heap.size = w.heap.size + 2) := Lib.hid (by rw [← hW]; simp)
  have hFF := hF.below HB0.out
  obtain ⟨Y, hY⟩ : ∃ Y, W.alloc (.cells #[] 3) = Y := ⟨_, rfl⟩
  have hby : Below W.heap.size W Y := by rw [← hY]; exact below_new _ _
  have hoe : OwnNums Y W.heap.size 3 1 (some ⟨W.heap.size, 0, none⟩) 0 0 F := by rw [← hY]; exact own_empty _ _ _ rfl (Nat.le_refl _) _
  obtain ⟨i0, hi0, hz0, hz1, hz2⟩ := infoInt
  obtain ⟨a2, c2, Z, hr, hol, _, hbe, _⟩ := app_own Y W.heap.size 3 22 22 1 8 i0 _ Try.underlying22 hi0 hz0 hz1 hz2 rfl (by decide) (by decide) hoe a n c F (by simpa using hFF.below hby) hnil (by omega) (by omega) hby.size
  rw [Nat.zero_add] at hr hol
  have HO : Hid (OwnNums Z W.heap.size 3 1 a2 n c2 F) := Lib.hid (hol.congr (fun q hq => by simp [joinF]))
  have hbz : Below W.heap.size W Z := hby.trans hbe
  have HBZ := Lib.hid (below_thn HB0.out hbz)
  have HTZ := Lib.hid (heap_lft HT.out hbz)
  rw [← hY] at hr
  have HAR := Lib.hid hr
  have x0 := cell_up (heap_cell HX.out (j := 0) rfl) (.cells #[] 3)
  have t0 := heap_cell HTZ.out (j := 0) rfl
  have f0 := heap_frozen HTZ.out 0
  clear hF hFF hY hby hoe hi0 hz0 hz1 hz2 hr hol hbe hbz hnil
  go_enter Try.func7, Try.ntmps7
  go_upto_region 1 with fail
  try rw [hW]
  clear hW
  go_wp2_with (first | (at_builtin; refine Lib.wpList_append_run _ rfl _ _ _ _ rfl _ _ rfl rfl _ _ HAR.out ?_) | go_in)
  refine bodyPost_ret (v := wheelsV a2 n c2) (by simp [results, Try.results7, go_sem, t0]; try rfl) rfl ⟨a2, c2, rfl, ?_, ?_⟩
  · have hz := HZ.out
    refine OwnNums.base (base := W.heap.size) ?_ (by omega)
    repeat (first | with_reducible exact HO.out | with_reducible refine OwnNums.set ?_ (by dsimp only; omega) _)
  · repeat (first | with_reducible exact HBZ.out | with_reducible refine Below.setCell ?_ (by simp) _)
set_option maxHeartbeats 2000000 in
theorem sameWheels_any (a a' : Option Addr) (n c c' : Nat) (F : Nat → Int) (hn : n ≤ 20) (w : World) (hF : NumsAt w a n F) (hF' : NumsAt w a' n F) :
    Calls Try.prog 12 #[wheelsV a n c, wheelsV a' n c'] w fun e w' => e = .returned (.bool true) ∧ Below w.heap.size w w' := by
  obtain ⟨W, hW⟩ : ∃ W, (w.alloc (wheelsB a n c)).alloc (wheelsB a' n c') = W := ⟨_, rfl⟩
  have HB0 : Hid (Below w.heap.size w W) := Lib.hid (by rw [← hW]; exact (below_new _ _).alloc (by simp) _)
  have HX : Hid (W.heap[w.heap.size]? = some (wheelsB a n c)) := Lib.hid (by rw [← hW]; exact heap_up (heap_top _ _ rfl) _)
  have HY : Hid (W.heap[w.heap.size + 1]? = some (wheelsB a' n c')) := Lib.hid (by rw [← hW]; exact heap_top _ _ (by simp))
  have HA := Lib.hid (And.intro (hF.below HB0.out) (hF'.below HB0.out))
  clear hF hF'
  have x0 := heap_cell HX.out (j := 0) rfl
  have y0 := heap_cell HY.out (j := 0) rfl
  go_enter Try.func12, Try.ntmps12
  go_upto_region 1 with fail
  try rw [hW]
  clear hW
  go_wp2_with fail
  refine (sameInts_any a a' n c c' F (by omega) _ HA.out.1 HA.out.2).mono ?_
  rintro e u ⟨rfl, hb⟩
  have HBu := Lib.hid (below_thn HB0.out hb)
  clear hb
  go_wp2_with fail
  go_ret
  exact ⟨rfl, HBu.out⟩
set_option maxHeartbeats 4000000 in
set_option maxRecDepth 100000 in
theorem sameTrains_any (la la' : Option Addr) (ln lc lc' : Nat) (L : Nat → Int) (hl : ln ≤ 20) (w : World) (h : NumsAt w la (ln * 2) L) (h' : NumsAt w la' (ln * 2) L) :
    Calls Try.prog 13 #[.slice la ln lc, .slice la' ln lc'] w fun e w' => e = .returned (.bool true) ∧ Below w.heap.size w w' := by
  have HP := Lib.hid h
  have HQ := Lib.hid h'
  clear h h'
  go_enter Try.func13, Try.ntmps13
  go_wp2_with fail
  go_loopw [5] (fun i wr => ∃ k : Nat, k ≤ ln ∧ i = .int .i64 k ∧ Below w.heap.size w wr) (fun i _ => ln - (intOf i).toNat)
  case atStart => exact ⟨0, Nat.zero_le _, rfl, Below.refl _ _⟩
  case round =>
    obtain ⟨k, hk, rfl, hb⟩ := hrel
    have HBa := Lib.hid hb
    have HPP := Lib.hid (HP.out.below hb)
    have HQQ := Lib.hid (HQ.out.below hb)
    clear hb
    by_cases hk1 : k < ln
    · obtain ⟨b, off, h9, -⟩ := HPP.out (k * 2) (by omega)
      obtain ⟨b', off', h8, -⟩ := HQQ.out (k * 2) (by omega)
      subst h9
      subst h8
      have n1 : (k : Int) < ln := by omega
      have p0 := HPP.out.at (show k * 2 < ln * 2 by omega)
      have p1 := nums_row HPP.out (show k * 2 + 1 < ln * 2 by omega)
      have q0 := HQQ.out.at (show k * 2 < ln * 2 by omega)
      have q1 := nums_row HQQ.out (show k * 2 + 1 < ln * 2 by omega)
      go_upto_region 6 with fail
      have xx0 := among_below p0
      have xx1 := among_below p1
      have xx2 := among_below q0
      have xx3 := among_below q1
      have HSt : Hid (Below wr.heap.size wr wr.drew) := Lib.hid (Below.refl _ _).drew
      have hne : Nonempty (Among (Below wr.heap.size wr)) := ⟨⟨_, HSt.out⟩⟩
      refine wp_region_class (Below wr.heap.size wr) (by kernel_rfl) (by kernel_rfl) HSt.out ?_
      repeat (go_big_quiet_step (fail))
      refine wpQuiet_nil ?_
      intro w8 hx
      have HB8 := Lib.hid (below_thn HBa.out (among_out hx))
      clear hx hne xx0 xx1 xx2 xx3 p0 p1 q0 q1
      go_wp2_with fail
      go_roundw
      case rel => exact ⟨k + 1, by omega, by go_num, HB8.out⟩
      case measure => simp [intOf]; omega
    · obtain rfl : k = ln := by omega
      go_wp2_with fail
      go_ret
      exact ⟨rfl, HBa.out⟩

end Go.Proofs.Ytacdbjandcdejaa
