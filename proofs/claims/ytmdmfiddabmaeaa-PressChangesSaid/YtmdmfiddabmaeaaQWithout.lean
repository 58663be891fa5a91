/-
  The contracts of without, and of checkNumbers.
-/
import Derived.Test.YtmdmfiddabmaeaaQStrike
namespace Go.Proofs.Ytmdmfiddabmaeaa
open Go.RowKit

set_option maxHeartbeats 4000000 in
set_option maxRecDepth 100000 in
theorem without_any (a : Option Addr) (n c : Nat) (b : Option Addr) (m d : Nat) (la : Option Addr) (len cap : Nat) (F G L : Nat → Int) (hn : n ≤ 40) (hm : m ≤ 60) (hl : len ≤ 1000000) (hnil : a = none → n = 0 ∧ c = 0) (wG : ∀ i, i < m → (Lit.int .i64 (G (i * 5))).wf = true) (wL : ∀ j, j < len → (Lit.int .i64 (L j)).wf = true) (w : World) (hF : NumsAt w a (n * 4) F) (hG : NumsAt w b (m * 5) G) (hL : NumsAt w la len L) :
    Calls Try.prog 17 #[pressV a n c b m d, .slice la len cap] w fun e w' => ∃ a1 c1 a2 c2, e = .returned (pressV a1 n c1 a2 (Pure.leftN len L G m) c2) ∧ OwnNums w' w.heap.size 45 4 a1 n c1 F ∧ OwnNums w' w.heap.size 29 5 a2 (Pure.leftN len L G m) c2 (Pure.leftF len L G m) ∧ Apart a2 a1 ∧ Below w.heap.size w w' := by
  obtain ⟨W, hW⟩ : ∃ W, (w.alloc (pressB a n c b m d)).alloc (pressB none 0 0 none 0 0) = W := ⟨_, rfl⟩
  have HB : Hid (Below w.heap.size w W) := Lib.hid (by rw [← hW]; exact (below_new _ _).alloc (by simp) _)
  have HX : Hid (W.heap[w.heap.size]? = some (pressB a n c b m d)) := Lib.hid (by rw [← hW]; exact heap_up (heap_top _ _ rfl) _)
  have HY : Hid (W.heap[w.heap.size + 1]? = some (pressB none 0 0 none 0 0)) := Lib.hid (by rw [← hW]; exact heap_top _ _ (by simp))
  have HSZ : Hid (W.heap.size = w.heap.size + 2) := Lib.hid (by rw [← hW]; simp)
  have HF := Lib.hid (hF.below HB.out)
  have HG := Lib.hid (hG.below HB.out)
  have HL := Lib.hid (hL.below HB.out)
  have HN := Lib.hid hnil
  have HWG := Lib.hid wG
  have HWL := Lib.hid wL
  clear hF hG hL hnil wG wL
  have x0 := heap_cell HX.out (j := 0) rfl
  have x1 := heap_cell HX.out (j := 1) rfl
  go_enter Try.func17, Try.ntmps17
  go_upto_region 1 with fail
  try rw [hW]
  clear hW
  go_wp2_with fail
  refine (strike_any b m d la len cap G L hm hl HWG.out HWL.out _ HG.out HL.out).mono ?_
  rintro e w2 ⟨a2, c2, s, rfl, ho, _, _, hb⟩
  have HO := Lib.hid ho
  have HX2 := Lib.hid (heap_lft HX.out hb)
  have HY2 := Lib.hid (heap_lft HY.out hb)
  have HB2 := Lib.hid (below_thn HB.out hb)
  have HF2 := Lib.hid (HF.out.below hb)
  have HS2 : Hid (w.heap.size + 2 ≤ w2.heap.size) := Lib.hid (by have := hb.size; have := HSZ.out; omega)
  clear ho hb x0 x1
  have x0 := heap_cell HX2.out (j := 0) rfl
  go_wp2_with fail
  refine (cloneRing_any a n c F hn HN.out _ HF2.out).mono ?_
  rintro e w3 ⟨a1, c1, rfl, ho, hb⟩
  have HAP : Hid (Apart a2 a1) := Lib.hid (HO.out.apart ho)
  have HO1 := Lib.hid ho
  have HO2 := Lib.hid (HO.out.below hb)
  have HY3 := Lib.hid (heap_lft HY2.out hb)
  have HB3 := Lib.hid (below_thn HB2.out hb)
  clear ho hb x0
  have y0 := heap_cell HY3.out (j := 0) rfl
  have y1 := heap_cell HY3.out (j := 1) rfl
  have f0 := heap_frozen HY3.out 0
  have f1 := heap_frozen HY3.out 1
  go_wp2_with fail
  refine bodyPost_ret (v := pressV a1 n c1 a2 (Pure.leftN len L G m) c2) (by simp [results, Try.results17, go_sem, y0, y1]; try rfl) rfl ⟨a1, c1, a2, c2, rfl, ?_, ?_, HAP.out, ?_⟩
  · have h2 := HS2.out
    refine OwnNums.base (base := w2.heap.size) ?_ (by omega)
    repeat (first | with_reducible exact HO1.out | with_reducible refine OwnNums.set ?_ (by simp; omega) _)
  · have h2 := HSZ.out
    refine OwnNums.base (base := W.heap.size) ?_ (by omega)
    repeat (first | with_reducible exact HO2.out | with_reducible refine OwnNums.set ?_ (by simp; omega) _)
  · repeat (first | with_reducible exact HB3.out | with_reducible refine Below.setCell ?_ (by simp) _)
end Go.Proofs.Ytmdmfiddabmaeaa
