/-
  The contracts of inOrder at numbers, and of checkNumbers.
-/
import Derived.Test.YtmdmfiddabmaeaaQWithout
namespace Go.Proofs.Ytmdmfiddabmaeaa
open Go.RowKit

set_option maxHeartbeats 1000000 in
set_option maxRecDepth 100000 in
theorem inOrderInt_any (a : Option Addr) (len cap : Nat) (F : Nat → Int) (q : Nat → Bool) (hl : len ≤ 1000000) (w : World) (h : NumsAt w a (len) F)
    (hp : ∀ u j, j + 1 < len → Below w.heap.size w u → Calls Try.prog 36 #[.int .i64 (F (j)), .int .i64 (F (j + 1))] u fun e u' => e = .returned (.bool (q j)) ∧ Below u.heap.size u u') :
    Calls Try.prog 35 #[.slice a len cap, .func (.func 36) #[] #[]] w fun e w' => e = .returned (.bool (Pure.inOrder q len)) ∧ Below w.heap.size w w' := by
  have HN := Lib.hid h
  have HP := Lib.hid hp
  clear h hp
  go_enter Try.func35, Try.ntmps35
  go_wp2_with fail
  go_loopw [5] (fun i wr => ∃ k : Nat, (k + 1 ≤ len ∨ k = 0) ∧ i = .int .i64 (k + 1) ∧ (∀ j, j < k → q j = true) ∧ Below w.heap.size w wr) (fun i _ => len - (intOf i).toNat)
  case atStart => exact ⟨0, .inr rfl, rfl, fun j hj => by omega, Below.refl _ _⟩
  case round =>
    obtain ⟨k, hk, rfl, hq, hb⟩ := hrel
    have HQ := Lib.hid hq
    have HB := Lib.hid hb
    clear hq hb
    by_cases hk1 : k + 1 < len
    · obtain ⟨b, off, rfl, _⟩ := HN.out k (by omega)
      have n1 : (k : Int) + 1 < len := by omega
      have HNr := Lib.hid (HN.out.below HB.out)
      have ca0 := HNr.out.at (show k < len by omega)
      have cb0 := HNr.out.at (show k + 1 < len by omega)
      have hcl := HP.out
      have q2 : IntKind.i64.wrap ((k : Int) + 1 - 1) = k := by rw [IntWalk.i64_in _ (by omega)]; omega
      have q3 : ((k : Int) + 1).toNat = k + 1 := by omega
      have xca0 := among_below ca0
      have xcb0 := among_below cb0
      have HCL : Hid (∀ xq : Among (Below wr.heap.size wr), Calls Try.prog 36 #[.int .i64 (F k), .int .i64 (F (k + 1))] xq.val fun e w' => e = .returned (.bool (q k)) ∧ ∃ y : Among (Below wr.heap.size wr), w' = y.val) :=
        Lib.hid (fun xq => calls_class ((HP.out xq.val k hk1 (below_thn HB.out xq.ok)).mono fun e w' h => ⟨h.1, xq.ok.trans (h.2.mono xq.ok.size)⟩))
      clear hcl
      go_upto_region 4 with fail
      have HSt : Hid (Below wr.heap.size wr wr.drew) := Lib.hid (Below.refl _ _).drew
      have hne : Nonempty (Among (Below wr.heap.size wr)) := ⟨⟨_, HSt.out⟩⟩
      refine wp_region_class (Below wr.heap.size wr) (by kernel_rfl) (by kernel_rfl) HSt.out ?_
      repeat (go_big_quiet_step ((go_at_call 36; exact HCL.out _)))
      refine wpQuiet_nil ?_
      intro w8 hx
      have HB8 := Lib.hid (below_thn HB.out (among_out hx))
      clear hx hne xca0 xcb0
      cases hqk : q k with
      | true =>
        go_wp2_with fail
        go_roundw
        case rel => exact ⟨k + 1, .inl (by omega), by go_num, fun j hj => by
          by_cases e : j = k
          · subst e; exact hqk
          · exact HQ.out j (by omega), HB8.out⟩
        case measure => simp [intOf]; omega
      | false =>
        go_wp2_with fail
        go_ret
        exact ⟨ret_bool (Pure.inOrder_no hk1 hqk).symm, HB8.out⟩
    · have n1 : ¬ (k : Int) + 1 < len := by omega
      go_wp2_with fail
      go_ret
      exact ⟨ret_bool (Pure.inOrder_yes fun j hj => HQ.out j (by omega)).symm, HB.out⟩

theorem less_any (x y : Int) (w : World) : Calls Try.prog 36 #[.int .i64 x, .int .i64 y] w fun e w' => e = .returned (.bool (decide (x < y))) ∧ Below w.heap.size w w' := by
  go_enter Try.func36, Try.ntmps36
  go_wp2_with fail
  go_ret
  exact ⟨rfl, Below.refl _ _⟩

/-- Numbers that rise, each of which a weighing has. -/
def struckOk (len : Nat) (L : Nat → Int) (m : Nat) (G : Nat → Int) : Prop := Pure.inOrder (fun j => decide (L j < L (j + 1))) len = true ∧ ∀ x : Int, (Lit.int .i64 x).wf = true → (Pure.inL len L x && !Pure.inL m (fun j => G (j * 5)) x) = false
set_option maxHeartbeats 4000000 in
set_option maxRecDepth 100000 in
theorem checkNumbers_any (a : Option Addr) (n c : Nat) (b : Option Addr) (m d : Nat) (la : Option Addr) (len cap : Nat) (G L : Nat → Int) (hm : m ≤ 60) (hl : len ≤ 1000000) (wG : ∀ i, i < m → (Lit.int .i64 (G (i * 5))).wf = true) (wL : ∀ j, j < len → (Lit.int .i64 (L j)).wf = true) (w : World) (hG : NumsAt w b (m * 5) G) (hL : NumsAt w la len L) :
    Calls Try.prog 24 #[pressV a n c b m d, .slice la len cap] w fun e w' => ∃ r : Int, e = .returned (.int .i64 r) ∧ (struckOk len L m G ∧ r = 0 ∨ ¬ struckOk len L m G ∧ r = 21) ∧ Below w.heap.size w w' := by
  obtain ⟨W, hW⟩ : ∃ W, w.alloc (pressB a n c b m d) = W := ⟨_, rfl⟩
  have HB : Hid (Below w.heap.size w W) := Lib.hid (by rw [← hW]; exact below_new _ _)
  have HX : Hid (W.heap[w.heap.size]? = some (pressB a n c b m d)) := Lib.hid (by rw [← hW]; exact heap_top _ _ rfl)
  have HG := Lib.hid (hG.below HB.out)
  have HL := Lib.hid (hL.below HB.out)
  have HWG := Lib.hid wG
  have HWL := Lib.hid wL
  clear hG hL wG wL
  have x1 := heap_cell HX.out (j := 1) rfl
  go_enter Try.func24, Try.ntmps24
  go_upto_region 1 with fail
  try rw [hW]
  clear hW x1
  go_wp2_with fail
  refine (inOrderInt_any la len cap L (fun j => decide (L j < L (j + 1))) hl _ HL.out (fun u j hj hb => less_any _ _ u)).mono ?_
  rintro e w2 ⟨rfl, hb⟩
  have HX2 := Lib.hid (heap_lft HX.out hb)
  have HB2 := Lib.hid (below_thn HB.out hb)
  have HG2 := Lib.hid (HG.out.below hb)
  have HL2 := Lib.hid (HL.out.below hb)
  clear hb
  obtain ⟨r, hr⟩ : ∃ r, Pure.inOrder (fun j => decide (L j < L (j + 1))) len = r := ⟨_, rfl⟩
  rw [hr]
  have HR := Lib.hid hr
  clear hr
  cases r
  · go_wp2_with fail
    go_ret
    exact ⟨21, rfl, .inr ⟨(fun h => by have h1 := h.1; rw [HR.out] at h1; cases h1), rfl⟩, HB2.out⟩
  · have x1 := heap_cell HX2.out (j := 1) rfl
    go_wp2_with fail
    refine (strike_any b m d la len cap G L hm hl HWG.out HWL.out _ HG2.out HL2.out).mono ?_
    rintro e w3 ⟨a2, c2, s, rfl, _, _, hs, hb⟩
    have HS := Lib.hid hs
    have HB3 := Lib.hid (below_thn HB2.out hb)
    clear hs hb x1
    obtain ⟨q, hq⟩ : ∃ q, decide ((s : Int) = 0) = q := ⟨_, rfl⟩
    have hq2 : ((s : Int) == 0) = q := by rw [← hq]; rfl
    have HQ := Lib.hid hq
    clear hq
    go_wp2_with fail
    refine (unless_any q 21 _).mono ?_
    rintro e w4 ⟨rfl, rfl⟩
    go_wp2_with fail
    go_ret
    have hqo := HQ.out
    cases q
    · refine ⟨21, rfl, .inr ⟨fun h => ?_, rfl⟩, ?_⟩
      · have h0 := HS.out.2 h.2
        subst h0
        simp at hqo
      · exact HB3.out
    · refine ⟨0, rfl, .inl ⟨⟨HR.out, HS.out.1 (by simpa using hqo)⟩, rfl⟩, ?_⟩
      exact HB3.out
end Go.Proofs.Ytmdmfiddabmaeaa
