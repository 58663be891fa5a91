/-
  The contracts of slices.Clone at pressings, of firstError at two codes, and of valid.
-/
import Derived.Test.YtmdmfiddabmaeaaQApp
import Derived.ArgAppend
import Derived.Lib.SliceRun
namespace Go.Proofs.Ytmdmfiddabmaeaa
open Go.RowKit

def CopyOut (t : TypeId) (k len : Nat) (F : Nat → Int) (w : World) (e : Ending) (w' : World) : Prop :=
  ∃ a cap, e = .returned (.slice a len cap) ∧ OwnNums w' w.heap.size t k a len cap F ∧ Below w.heap.size w w'
set_option maxHeartbeats 1000000 in
set_option maxRecDepth 100000 in
theorem cloneRing_any (a : Option Addr) (len cap : Nat) (F : Nat → Int) (hl : len ≤ 40) (hnil : a = none → len = 0 ∧ cap = 0) (w : World) (h : NumsAt w a (len * 4) F) :
    Calls Try.prog 30 #[.slice a len cap] w (CopyOut 45 4 len F w) := by
  cases a with
  | none =>
    obtain ⟨rfl, rfl⟩ := hnil rfl
    have hnl := Lib.run_eql_slice_nil (P := Try.prog) w 22 45 none 0 0 0 0 Try.underlying22
    simp only [Option.isNone_none] at hnl
    go_enter Try.func30, Try.ntmps30
    go_wp2_with fail
    go_ret
    exact ⟨none, 0, rfl, own_nil _ _ _ _ _, Below.refl _ _⟩
  | some b0 =>
    clear hnil
    by_cases h0 : len = 0
    · subst h0
      clear h
      have hnl := Lib.run_eql_slice_nil (P := Try.prog) w 22 45 (some b0) 0 cap 0 0 Try.underlying22
      simp only [Option.isNone_some] at hnl
      go_enter Try.func30, Try.ntmps30
      go_wp2_with fail
      go_ret
      exact ⟨_, _, rfl, own_empty _ _ _ rfl (Nat.le_refl _) _, below_new _ _⟩
    · obtain ⟨b, off, hb0, _⟩ := h 0 (by omega)
      cases hb0
      have HN : Hid (NumsAt (w.alloc (.cells #[] 45)) (some ⟨b, off, none⟩) (len * 4) F) := Lib.hid (h.alloc _)
      clear h
      obtain ⟨i0, hi, hz0, hz1, hz2⟩ := infoRing
      have hnl := Lib.run_eql_slice_nil (P := Try.prog) w 22 45 (some ⟨b, off, none⟩) len cap 0 0 Try.underlying22
      simp only [Option.isNone_some] at hnl
      go_enter Try.func30, Try.ntmps30
      go_wp2_with (at_builtin; refine wpList_append_grows _ rfl (.tmp 5) (.tmp 6) 22 rfl 45 i0 (.agg #[.int .i64 0, .int .i64 0, .int .i64 0, .int .i64 0]) 4 32 Try.underlying22 hi hz0 hz1 hz2 rfl (by decide) (some ⟨w.heap.size, 0, none⟩) 0 0 [] rfl (by simp) rfl (by intro _ _ _ _ h; simp at h) ⟨b, off, none⟩ len cap (numsCells (len * 4) F) rfl (numsCells_length _ _) (fun j v h => numsCells_hold HN.out h) ?c2 (by omega) (by unfold maxLen; omega) (by omega) ?grow)
      case c2 =>
        intro v hv
        obtain ⟨j, hj⟩ := List.getElem?_of_mem hv
        obtain ⟨_, rfl⟩ := numsCells_at hj
        rfl
      case grow =>
        intro v' w' hown hgrow
        have hown : w'.ownsRow (w.alloc (.cells #[] 45)).heap.size 45 4 v' len (numsCells (len * 4) F) := by simpa using hown
        obtain ⟨a', cap', rfl⟩ : ∃ a' cap', v' = .slice a' len cap' := by
          obtain ⟨_, ⟨rfl, h⟩ | ⟨g, c, cur, rfl, _⟩⟩ := hown
          · exact absurd h h0
          · exact ⟨_, _, rfl⟩
        have HO : Hid (OwnNums w' w.heap.size 45 4 a' len cap' F) := Lib.hid (OwnNums.base hown (by simp))
        have HB : Hid (Below w.heap.size w w') := Lib.hid (((Below.refl _ _).alloc (Nat.le_refl _) _).grown hgrow (by simp) (fun k h => by cases h))
        clear hown hgrow
        go_wp2_with fail
        go_ret
        exact ⟨_, _, rfl, HO.out, HB.out⟩


set_option maxHeartbeats 1000000 in
set_option maxRecDepth 100000 in
theorem firstError2 (x y : Int) (b cap : Nat) (w : World) (h0 : w.cell? ⟨b, 0, none⟩ = some (.int .i64 x)) (h1 : w.cell? ⟨b, 1, none⟩ = some (.int .i64 y)) :
    Calls Try.prog 14 #[.slice (some ⟨b, 0, none⟩) 2 cap] w fun e w' => e = .returned (.int .i64 (if x = 0 then y else x)) ∧ w = w' := by
  have H0 := Lib.hid h0
  have H1 := Lib.hid h1
  clear h0 h1
  go_enter Try.func14, Try.ntmps14
  go_wp2_with fail
  go_loop [4, 7] (fun _ i => ∃ k : Nat, k ≤ 2 ∧ i = .int .i64 k ∧ (0 < k → x = 0) ∧ (1 < k → y = 0)) (fun _ i => 2 - (intOf i).toNat)
  case atStart => exact ⟨0, Nat.zero_le _, rfl, by omega, by omega⟩
  case round =>
    obtain ⟨k, hk, rfl, q0, q1⟩ := hrel
    have HQ := Lib.hid (And.intro q0 q1)
    clear q0 q1
    have hk3 : k = 0 ∨ k = 1 ∨ k = 2 := by omega
    rcases hk3 with rfl | rfl | rfl
    · have c0 := H0.out
      by_cases hx : x = 0
      · subst hx
        go_wp2_with fail
        go_round
        case rel => exact ⟨1, by omega, rfl, fun _ => by first | rfl | trivial, by omega⟩
        case measure => simp [intOf]
      · have hne : (x != 0) = true := by simpa using hx
        have HNX := Lib.hid hx
        clear hx
        go_wp2_with fail
        go_ret
        exact ⟨ret_int (by first | rfl | rw [if_neg HNX.out]), rfl⟩
    · have c0 := H1.out
      have HX0 := Lib.hid (HQ.out.1 (by omega))
      by_cases hy : y = 0
      · have HY0 := Lib.hid hy
        subst hy
        go_wp2_with fail
        go_round
        case rel => exact ⟨2, by omega, rfl, fun _ => (by first | exact HX0.out | trivial), fun _ => (by first | rfl | trivial)⟩
        case measure => simp [intOf]
      · have hne : (y != 0) = true := by simpa using hy
        clear hy
        go_wp2_with fail
        go_ret
        exact ⟨ret_int (by first | rfl | rw [if_pos HX0.out]), rfl⟩
    · have HX0 := Lib.hid (HQ.out.1 (by omega))
      have HY0 := Lib.hid (HQ.out.2 (by omega))
      go_wp2_with fail
      go_ret
      exact ⟨ret_int (by first | exact HY0.out.symm | rw [if_pos HX0.out, HY0.out]), rfl⟩

set_option maxHeartbeats 2000000 in
set_option maxRecDepth 100000 in
theorem valid_any (a : Option Addr) (n c : Nat) (b : Option Addr) (m d : Nat) (en : Int) (F G : Nat → Int) (hn : n ≤ 60) (hm : m ≤ 60) (w : World) (hF : NumsAt w a (n * 4) F) (hG : NumsAt w b (m * 5) G) :
    Calls Try.prog 22 #[pressV a n c b m d, .int .i64 en] w fun e w' => e = .returned (.tuple #[(if Pure.press n F m G then pressV a n c b m d else pressV none 0 0 none 0 0), .int .i64 (Pure.err (Pure.press n F m G) en)]) ∧ Below w.heap.size w w' := by
  obtain ⟨W, hW⟩ : ∃ W, (w.alloc (pressB a n c b m d)).alloc (pressB none 0 0 none 0 0) = W := ⟨_, rfl⟩
  have HB : Hid (Below w.heap.size w W) := Lib.hid (by rw [← hW]; exact (below_new _ _).alloc (by simp) _)
  have HX : Hid (W.heap[w.heap.size]? = some (pressB a n c b m d)) := Lib.hid (by rw [← hW]; exact heap_up (heap_top _ _ rfl) _)
  have HY : Hid (W.heap[w.heap.size + 1]? = some (pressB none 0 0 none 0 0)) := Lib.hid (by rw [← hW]; exact heap_top _ _ (by simp))
  have HF : Hid (NumsAt W a (n * 4) F) := Lib.hid (hF.below HB.out)
  have HG : Hid (NumsAt W b (m * 5) G) := Lib.hid (hG.below HB.out)
  clear hF hG
  obtain ⟨r, hr⟩ : ∃ r, Pure.press n F m G = r := ⟨_, rfl⟩
  rw [hr]
  have HR := Lib.hid hr
  clear hr
  have x0 := heap_cell HX.out (j := 0) rfl
  have x1 := heap_cell HX.out (j := 1) rfl
  go_enter Try.func22, Try.ntmps22
  go_upto_region 1 with fail
  try rw [hW]
  clear hW
  go_wp2_with fail
  refine (check_any a n c b m d F G hn hm _ HF.out HG.out).mono ?_
  rintro e w2 ⟨rfl, hb⟩
  rw [HR.out]
  clear x0 x1
  have HX2 := Lib.hid (heap_lft HX.out hb)
  have HY2 := Lib.hid (heap_lft HY.out hb)
  have HB2 := Lib.hid (below_thn HB.out hb)
  clear hb
  have x0 := heap_cell HX2.out (j := 0) rfl
  have x1 := heap_cell HX2.out (j := 1) rfl
  have y0 := heap_cell HY2.out (j := 0) rfl
  have y1 := heap_cell HY2.out (j := 1) rfl
  have f0 := heap_frozen HY2.out 0
  have f1 := heap_frozen HY2.out 1
  cases r
  · have e1 : (Pure.err false 20 != 0) = true := rfl
    go_wp2_with fail
    refine bodyPost_ret (v := .tuple #[pressV none 0 0 none 0 0, .int .i64 en]) (by simp [results, Try.results22, go_sem, y0, y1]; try rfl) rfl ⟨rfl, ?_⟩
    repeat (first | with_reducible exact HB2.out | with_reducible refine Below.setCell ?_ (by simp) _)
  · have e1 : (Pure.err true 20 != 0) = false := rfl
    go_wp2_with fail
    refine bodyPost_ret (v := .tuple #[pressV a n c b m d, .int .i64 0]) (by simp [results, Try.results22, go_sem, y0, y1]; try rfl) rfl ⟨rfl, ?_⟩
    repeat (first | with_reducible exact HB2.out | with_reducible refine Below.setCell ?_ (by simp) _)

end Go.Proofs.Ytmdmfiddabmaeaa
