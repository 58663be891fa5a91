/-
  What ricks have waited, and what is turned: the contracts of now, turned, turning and heats.
-/
import Derived.Test.YteoakchcomodgaaWDays
import Derived.BigRegion
namespace Go.Proofs.Yteoakchcomodgaa
open Go.RowKit

theorem setCell_other {w : World} {p : Addr} {v : Value} {b : Nat} (h : b ≠ p.block) : (w.setCell p v).heap[b]? = w.heap[b]? := Below.heap_setCell _ _ _ _ h
abbrev waitV (S : Nat → Int) : Value := .agg #[.int .i64 (S 0), .int .i64 (S 1), .int .i64 (S 2), .int .i64 (S 3)]
abbrev waitB (S : Nat → Int) : Obj := .cells #[.int .i64 (S 0), .int .i64 (S 1), .int .i64 (S 2), .int .i64 (S 3)] 52
abbrev turnV (T : Nat → Bool) : Value := .agg #[.bool (T 0), .bool (T 1), .bool (T 2), .bool (T 3)]
abbrev turnB (T : Nat → Bool) : Obj := .cells #[.bool (T 0), .bool (T 1), .bool (T 2), .bool (T 3)] 84
abbrev dayB (h : Int) (a : Option Addr) (n c : Nat) (l : Option Addr) (ln lc : Nat) : Obj := .cells #[.int .i64 h, .slice a n c, .slice l ln lc] 82
theorem wait_congr {S T : Nat → Int} (h : ∀ q, q < 4 → S q = T q) : waitB S = waitB T := by
  simp only [waitB, h 0 (by omega), h 1 (by omega), h 2 (by omega), h 3 (by omega)]
theorem waitV_congr {S T : Nat → Int} (h : ∀ q, q < 4 → S q = T q) : waitV S = waitV T := by
  simp only [waitV, h 0 (by omega), h 1 (by omega), h 2 (by omega), h 3 (by omega)]
theorem turn_congr {S T : Nat → Bool} (h : ∀ q, q < 4 → S q = T q) : turnB S = turnB T := by
  simp only [turnB, h 0 (by omega), h 1 (by omega), h 2 (by omega), h 3 (by omega)]
theorem wait_cell {w : World} {b : Nat} {S : Nat → Int} (h : w.heap[b]? = some (waitB S)) {q : Nat} (hq : q < 4) : w.cell? ⟨b, q, none⟩ = some (.int .i64 (S q)) := by
  have h4 : q = 0 ∨ q = 1 ∨ q = 2 ∨ q = 3 := by omega
  rcases h4 with rfl | rfl | rfl | rfl <;> exact heap_cell h rfl
theorem turn_cell {w : World} {b : Nat} {S : Nat → Bool} (h : w.heap[b]? = some (turnB S)) {q : Nat} (hq : q < 4) : w.cell? ⟨b, q, none⟩ = some (.bool (S q)) := by
  have h4 : q = 0 ∨ q = 1 ∨ q = 2 ∨ q = 3 := by omega
  rcases h4 with rfl | rfl | rfl | rfl <;> exact heap_cell h rfl
theorem wait_set {w : World} {b : Nat} {S : Nat → Int} (h : w.heap[b]? = some (waitB S)) {q : Nat} (hq : q < 4) (v : Int) : (w.setCell ⟨b, q, none⟩ (.int .i64 v)).heap[b]? = some (waitB (fun j => if j = q then v else S j)) := by
  have h4 : q = 0 ∨ q = 1 ∨ q = 2 ∨ q = 3 := by omega
  rcases h4 with rfl | rfl | rfl | rfl <;> exact (heap_set h _ _).trans (by simp [waitB])
theorem turn_set {w : World} {b : Nat} {S : Nat → Bool} (h : w.heap[b]? = some (turnB S)) {q : Nat} (hq : q < 4) (v : Bool) : (w.setCell ⟨b, q, none⟩ (.bool v)).heap[b]? = some (turnB (fun j => if j = q then v else S j)) := by
  have h4 : q = 0 ∨ q = 1 ∨ q = 2 ∨ q = 3 := by omega
  rcases h4 with rfl | rfl | rfl | rfl <;> exact (heap_set h _ _).trans (by simp [turnB])
namespace Pure
def turnedS (n : Nat) (T : Nat → Bool) (S : Nat → Int) : Nat → Int := fun i => if i < n then (if T i then 0 else S i + 1) else S i
def nowS (n : Nat) (F : Nat → Int) : Nat → Int := fun i => if i < n then F (i * 3 + 2) else 0
def turnT (n : Nat) (F : Nat → Int) (l : Nat) (G : Nat → Int) : Nat → Bool := fun i => if i < n then has l G (F (i * 3)) else false
end Pure

set_option maxHeartbeats 2000000 in
set_option maxRecDepth 100000 in
theorem now_any (B : Nat) (h : Int) (a : Option Addr) (n c : Nat) (l : Option Addr) (ln lc : Nat) (F : Nat → Int) (hn : n ≤ 4) (w : World) (hX : w.heap[B]? = some (dayB h a n c l ln lc)) (hF : NumsAt w a (n * 3) F) :
    Calls Try.prog 28 #[.pointer (some ⟨B, 0, none⟩)] w fun e w' => e = .returned (waitV (Pure.nowS n F)) ∧ Below w.heap.size w w' := by
  obtain ⟨W, hW⟩ : ∃ W, (w.alloc (waitB (fun _ => 0))).alloc (waitB (fun _ => 0)) = W := ⟨_, rfl⟩
  have HB : Hid (Below w.heap.size w W) := Lib.hid (by rw [← hW]; exact (below_new _ _).alloc (by simp; try omega) _)
  have HR : Hid (W.heap[w.heap.size]? = some (waitB (fun _ => 0))) := Lib.hid (by rw [← hW]; exact heap_up (heap_top _ _ rfl) _)
  have HS : Hid (W.heap[w.heap.size + 1]? = some (waitB (fun _ => 0))) := Lib.hid (by rw [← hW]; exact heap_top _ _ (by simp))
  have HX := Lib.hid (heap_lft hX HB.out)
  have HF0 := Lib.hid hF
  clear hX hF
  have x1 := heap_cell HX.out (j := 1) rfl
  go_enter Try.func28, Try.ntmps28
  go_upto_region 2 with fail
  try rw [hW]
  clear hW
  go_wp2_with fail
  clear x1
  go_loopw [4, 5, 12] (fun _ _ i wr => ∃ k : Nat, k ≤ n ∧ i = .int .i64 k ∧ wr.heap[w.heap.size + 1]? = some (waitB (fun q => if q < k then F (q * 3 + 2) else 0)) ∧ wr.heap[w.heap.size]? = some (waitB (fun _ => 0)) ∧ Below w.heap.size w wr) (fun _ _ i _ => n - (intOf i).toNat)
  case atStart => exact ⟨0, Nat.zero_le _, rfl, HS.out, HR.out, HB.out⟩
  case round =>
    obtain ⟨k, hk, rfl, hs, hr, hb⟩ := hrel
    have HSr := Lib.hid hs
    have HRr := Lib.hid hr
    have HBr := Lib.hid hb
    have HFr := Lib.hid (HF0.out.below hb)
    clear hs hr hb
    by_cases hk1 : k < n
    · have HK := Lib.hid hk1
      obtain ⟨g, off, rfl, _⟩ := HFr.out (k * 3) (by omega)
      have c0 := HFr.out.at (show k * 3 < n * 3 by omega)
      have c1 := nums_row HFr.out (show k * 3 + 1 < n * 3 by omega)
      have c2 := nums_row HFr.out (show k * 3 + 2 < n * 3 by omega)
      have n1 : (k : Int) < 4 := by omega
      go_upto_region 5 with fail
      obtain ⟨Y, hY⟩ : ∃ Y, wr.alloc (rickB (F (k * 3)) (F (k * 3 + 1)) (F (k * 3 + 2))) = Y := ⟨_, rfl⟩
      have hby : Below wr.heap.size wr Y := by rw [← hY]; exact below_new _ _
      have HY : Hid (Y.heap[wr.heap.size]? = some (rickB (F (k * 3)) (F (k * 3 + 1)) (F (k * 3 + 2)))) := Lib.hid (by rw [← hY]; exact heap_top _ _ rfl)
      have HSY := Lib.hid (heap_lft HSr.out hby)
      have HRY := Lib.hid (heap_lft HRr.out hby)
      have HBY := Lib.hid (below_thn HBr.out hby)
      try rw [hY]
      clear hY c0 c1 c2 hby
      have y2 := heap_cell HY.out (j := 2) rfl
      have s1 := wait_cell HSY.out (show k < 4 by omega)
      have fs1 := heap_frozen HSY.out k
      go_wp2_with fail
      go_roundw
      case rel => exact ⟨k + 1, HK.out, by go_num, (wait_set HSY.out (by have := HK.out; omega) _).trans (congrArg some (wait_congr (fun q _ => by
        by_cases e : q = k
        · subst e; simp
        · have e2 : (q < k + 1) = (q < k) := by apply propext; omega
          simp only [e, if_false, e2]))), (setCell_other (by simp)).trans HRY.out, HBY.out.setCell (by simp) _⟩
      case measure => have := HK.out; simp [intOf]; omega
    · obtain rfl : k = n := by omega
      have HSZ : Hid (wr.heap[w.heap.size + 1]? = some (waitB (Pure.nowS k F))) := HSr
      have s0 := heap_cell HSZ.out (j := 0) rfl
      have fs0 := heap_frozen HSZ.out 0
      have s1 := heap_cell HSZ.out (j := 1) rfl
      have fs1 := heap_frozen HSZ.out 1
      have s2 := heap_cell HSZ.out (j := 2) rfl
      have fs2 := heap_frozen HSZ.out 2
      have s3 := heap_cell HSZ.out (j := 3) rfl
      have fs3 := heap_frozen HSZ.out 3
      have r0 := heap_cell HRr.out (j := 0) rfl
      have fr0 := heap_frozen HRr.out 0
      have r1 := heap_cell HRr.out (j := 1) rfl
      have fr1 := heap_frozen HRr.out 1
      have r2 := heap_cell HRr.out (j := 2) rfl
      have fr2 := heap_frozen HRr.out 2
      have r3 := heap_cell HRr.out (j := 3) rfl
      have fr3 := heap_frozen HRr.out 3
      go_wp2_with fail
      refine bodyPost_ret (v := waitV (Pure.nowS k F)) (by simp [results, Try.results28, go_sem, r0, r1, r2, r3]; try rfl) rfl ⟨rfl, ?_⟩
      repeat (first | with_reducible exact HBr.out | with_reducible refine Below.setCell ?_ (by first | (simp; done) | (dsimp only; omega)) _)

set_option maxHeartbeats 2000000 in
set_option maxRecDepth 100000 in
theorem turned_any (B : Nat) (h : Int) (a : Option Addr) (n c : Nat) (l : Option Addr) (ln lc : Nat) (S : Nat → Int) (T : Nat → Bool) (hn : n ≤ 4) (hS : ∀ q, q < n → 0 ≤ S q ∧ S q ≤ 1000000) (w : World) (hX : w.heap[B]? = some (dayB h a n c l ln lc)) :
    Calls Try.prog 39 #[.pointer (some ⟨B, 0, none⟩), waitV S, turnV T] w fun e w' => e = .returned (waitV (Pure.turnedS n T S)) ∧ Below w.heap.size w w' := by
  obtain ⟨W, hW⟩ : ∃ W, ((w.alloc (waitB S)).alloc (turnB T)).alloc (waitB (fun _ => 0)) = W := ⟨_, rfl⟩
  have HB : Hid (Below w.heap.size w W) := Lib.hid (by rw [← hW]; exact ((below_new _ _).alloc (by simp; try omega) _).alloc (by simp; try omega) _)
  have HS : Hid (W.heap[w.heap.size]? = some (waitB S)) := Lib.hid (by rw [← hW]; exact heap_up (heap_up (heap_top _ _ rfl) _) _)
  have HT : Hid (W.heap[w.heap.size + 1]? = some (turnB T)) := Lib.hid (by rw [← hW]; exact heap_up (heap_top _ _ (by simp)) _)
  have HR : Hid (W.heap[w.heap.size + 1 + 1]? = some (waitB (fun _ => 0))) := Lib.hid (by rw [← hW]; exact heap_top _ _ (by simp))
  have HX := Lib.hid (heap_lft hX HB.out)
  clear hX
  have HBS := Lib.hid hS
  clear hS
  have x1 := heap_cell HX.out (j := 1) rfl
  go_enter Try.func39, Try.ntmps39
  go_upto_region 1 with fail
  try rw [hW]
  clear hW
  go_wp2_with fail
  clear x1
  go_loopw [7, 14] (fun _ i wr => ∃ k : Nat, k ≤ n ∧ i = .int .i64 k ∧ wr.heap[w.heap.size]? = some (waitB (fun q => if q < k then (if T q then 0 else S q + 1) else S q)) ∧ wr.heap[w.heap.size + 1]? = some (turnB T) ∧ wr.heap[w.heap.size + 1 + 1]? = some (waitB (fun _ => 0)) ∧ Below w.heap.size w wr) (fun _ i _ => n - (intOf i).toNat)
  case atStart => exact ⟨0, Nat.zero_le _, rfl, HS.out, HT.out, HR.out, HB.out⟩
  case round =>
    obtain ⟨k, hk, rfl, hs, ht, hr, hb⟩ := hrel
    have HSr := Lib.hid hs
    have HTr := Lib.hid ht
    have HRr := Lib.hid hr
    have HBr := Lib.hid hb
    clear hs ht hr hb
    by_cases hk1 : k < n
    · have HK := Lib.hid hk1
      have n1 : (k : Int) < 4 := by omega
      have hw1 : IntKind.i64.wrap (S k + 1) = S k + 1 := IntWalk.i64_in _ (by have := HBS.out k hk1; omega)
      have s1 := wait_cell HSr.out (show k < 4 by omega)
      rw [if_neg (Nat.lt_irrefl k)] at s1
      have fs1 := heap_frozen HSr.out k
      go_upto_region 5 with fail
      obtain ⟨Y, hY⟩ : ∃ Y, wr.setCell ⟨w.heap.size, k, none⟩ (.int .i64 (S k + 1)) = Y := ⟨_, rfl⟩
      have HSY : Hid (Y.heap[w.heap.size]? = some (waitB (fun j => if j = k then S k + 1 else if j < k then (if T j then 0 else S j + 1) else S j))) := Lib.hid (by rw [← hY]; exact wait_set HSr.out (by omega) _)
      have HTY : Hid (Y.heap[w.heap.size + 1]? = some (turnB T)) := Lib.hid (by rw [← hY]; exact (setCell_other (by simp)).trans HTr.out)
      have HRY : Hid (Y.heap[w.heap.size + 1 + 1]? = some (waitB (fun _ => 0))) := Lib.hid (by rw [← hY]; exact (setCell_other (by dsimp only; omega)).trans HRr.out)
      have HBY : Hid (Below w.heap.size w Y) := Lib.hid (by rw [← hY]; exact HBr.out.setCell (Nat.le_refl _) _)
      try rw [hY]
      clear hY s1 fs1 hw1
      have t1 := turn_cell HTY.out (show k < 4 by omega)
      have s1 := wait_cell HSY.out (show k < 4 by omega)
      have fs1 := heap_frozen HSY.out k
      obtain ⟨b, hb⟩ : ∃ b, T k = b := ⟨_, rfl⟩
      rw [hb] at t1
      have HTK := Lib.hid hb
      clear hb
      cases b
      · go_wp2_with fail
        go_roundw
        case rel => exact ⟨k + 1, HK.out, by go_num, HSY.out.trans (congrArg some (wait_congr (fun q _ => by
          by_cases e : q = k
          · subst e; simp [HTK.out]
          · have e2 : (q < k + 1) = (q < k) := by apply propext; omega
            simp only [e, if_false, e2]))), HTY.out, HRY.out, HBY.out⟩
        case measure => have := HK.out; simp [intOf]; omega
      · go_wp2_with fail
        go_roundw
        case rel => exact ⟨k + 1, HK.out, by go_num, (wait_set HSY.out (by have := HK.out; omega) _).trans (congrArg some (wait_congr (fun q _ => by
          by_cases e : q = k
          · subst e; simp [HTK.out]
          · have e2 : (q < k + 1) = (q < k) := by apply propext; omega
            simp only [e, if_false, e2]))), (setCell_other (by simp)).trans HTY.out, (setCell_other (by dsimp only; omega)).trans HRY.out, HBY.out.setCell (Nat.le_refl _) _⟩
        case measure => have := HK.out; simp [intOf]; omega
    · obtain rfl : k = n := by omega
      have HSZ : Hid (wr.heap[w.heap.size]? = some (waitB (Pure.turnedS k T S))) := HSr
      have s0 := heap_cell HSZ.out (j := 0) rfl
      have fs0 := heap_frozen HSZ.out 0
      have s1 := heap_cell HSZ.out (j := 1) rfl
      have fs1 := heap_frozen HSZ.out 1
      have s2 := heap_cell HSZ.out (j := 2) rfl
      have fs2 := heap_frozen HSZ.out 2
      have s3 := heap_cell HSZ.out (j := 3) rfl
      have fs3 := heap_frozen HSZ.out 3
      have r0 := heap_cell HRr.out (j := 0) rfl
      have fr0 := heap_frozen HRr.out 0
      have r1 := heap_cell HRr.out (j := 1) rfl
      have fr1 := heap_frozen HRr.out 1
      have r2 := heap_cell HRr.out (j := 2) rfl
      have fr2 := heap_frozen HRr.out 2
      have r3 := heap_cell HRr.out (j := 3) rfl
      have fr3 := heap_frozen HRr.out 3
      go_wp2_with fail
      refine bodyPost_ret (v := waitV (Pure.turnedS k T S)) (by simp [results, Try.results39, go_sem, r0, r1, r2, r3]; try rfl) rfl ⟨rfl, ?_⟩
      repeat (first | with_reducible exact HBr.out | with_reducible refine Below.setCell ?_ (by first | (simp; done) | (dsimp only; omega)) _)

set_option maxHeartbeats 2000000 in
set_option maxRecDepth 100000 in
theorem turning_any (B : Nat) (h : Int) (a : Option Addr) (n c : Nat) (l : Option Addr) (ln lc : Nat) (F : Nat → Int) (s : Option Addr) (m mc : Nat) (G : Nat → Int) (hn : n ≤ 4) (hm : m ≤ 1000000) (w : World) (hX : w.heap[B]? = some (dayB h a n c l ln lc)) (hF : NumsAt w a (n * 3) F) (hG : NumsAt w s m G) :
    Calls Try.prog 40 #[.pointer (some ⟨B, 0, none⟩), .slice s m mc] w fun e w' => e = .returned (turnV (Pure.turnT n F m G)) ∧ Below w.heap.size w w' := by
  obtain ⟨W, hW⟩ : ∃ W, (w.alloc (turnB (fun _ => false))).alloc (turnB (fun _ => false)) = W := ⟨_, rfl⟩
  have HB : Hid (Below w.heap.size w W) := Lib.hid (by rw [← hW]; exact (below_new _ _).alloc (by simp; try omega) _)
  have HR : Hid (W.heap[w.heap.size]? = some (turnB (fun _ => false))) := Lib.hid (by rw [← hW]; exact heap_up (heap_top _ _ rfl) _)
  have HS : Hid (W.heap[w.heap.size + 1]? = some (turnB (fun _ => false))) := Lib.hid (by rw [← hW]; exact heap_top _ _ (by simp))
  have HX := Lib.hid (heap_lft hX HB.out)
  have HF0 := Lib.hid hF
  have HG0 := Lib.hid hG
  clear hX hF hG
  have x1 := heap_cell HX.out (j := 1) rfl
  go_enter Try.func40, Try.ntmps40
  go_upto_region 2 with fail
  try rw [hW]
  clear hW
  go_wp2_with fail
  clear x1
  go_loopw [6, 7, 14] (fun _ _ i wr => ∃ k : Nat, k ≤ n ∧ i = .int .i64 k ∧ wr.heap[w.heap.size + 1]? = some (turnB (fun q => if q < k then Pure.has m G (F (q * 3)) else false)) ∧ wr.heap[w.heap.size]? = some (turnB (fun _ => false)) ∧ Below w.heap.size w wr) (fun _ _ i _ => n - (intOf i).toNat)
  case atStart => exact ⟨0, Nat.zero_le _, rfl, HS.out, HR.out, HB.out⟩
  case round =>
    obtain ⟨k, hk, rfl, hs, hr, hb⟩ := hrel
    have HSr := Lib.hid hs
    have HRr := Lib.hid hr
    have HBr := Lib.hid hb
    have HFr := Lib.hid (HF0.out.below hb)
    clear hs hr hb
    by_cases hk1 : k < n
    · have HK := Lib.hid hk1
      obtain ⟨g, off, rfl, _⟩ := HFr.out (k * 3) (by omega)
      have c0 := HFr.out.at (show k * 3 < n * 3 by omega)
      have c1 := nums_row HFr.out (show k * 3 + 1 < n * 3 by omega)
      have c2 := nums_row HFr.out (show k * 3 + 2 < n * 3 by omega)
      have n1 : (k : Int) < 4 := by omega
      go_upto_region 5 with fail
      obtain ⟨Y, hY⟩ : ∃ Y, wr.alloc (rickB (F (k * 3)) (F (k * 3 + 1)) (F (k * 3 + 2))) = Y := ⟨_, rfl⟩
      have hby : Below wr.heap.size wr Y := by rw [← hY]; exact below_new _ _
      have HY : Hid (Y.heap[wr.heap.size]? = some (rickB (F (k * 3)) (F (k * 3 + 1)) (F (k * 3 + 2)))) := Lib.hid (by rw [← hY]; exact heap_top _ _ rfl)
      have HSY := Lib.hid (heap_lft HSr.out hby)
      have HRY := Lib.hid (heap_lft HRr.out hby)
      have HBY := Lib.hid (below_thn HBr.out hby)
      try rw [hY]
      clear hY c0 c1 c2 hby
      have y0 := heap_cell HY.out (j := 0) rfl
      go_wp2_with fail
      refine (containsNum_any s m mc G (F (k * 3)) hm _ (HG0.out.below HBY.out)).mono ?_
      rintro e Z ⟨rfl, hb⟩
      have HSZ := Lib.hid (heap_lft HSY.out hb)
      have HRZ := Lib.hid (heap_lft HRY.out hb)
      have HBZ := Lib.hid (below_thn HBY.out hb)
      clear y0 hb
      have s1 := turn_cell HSZ.out (show k < 4 by omega)
      have fs1 := heap_frozen HSZ.out k
      go_wp2_with fail
      go_roundw
      case rel => exact ⟨k + 1, HK.out, by go_num, (turn_set HSZ.out (by have := HK.out; omega) _).trans (congrArg some (turn_congr (fun q _ => by
        by_cases e : q = k
        · subst e; simp
        · have e2 : (q < k + 1) = (q < k) := by apply propext; omega
          simp only [e, if_false, e2]))), (setCell_other (by simp)).trans HRZ.out, HBZ.out.setCell (by simp) _⟩
      case measure => have := HK.out; simp [intOf]; omega
    · obtain rfl : k = n := by omega
      have HSZ : Hid (wr.heap[w.heap.size + 1]? = some (turnB (Pure.turnT k F m G))) := HSr
      have s0 := heap_cell HSZ.out (j := 0) rfl
      have fs0 := heap_frozen HSZ.out 0
      have s1 := heap_cell HSZ.out (j := 1) rfl
      have fs1 := heap_frozen HSZ.out 1
      have s2 := heap_cell HSZ.out (j := 2) rfl
      have fs2 := heap_frozen HSZ.out 2
      have s3 := heap_cell HSZ.out (j := 3) rfl
      have fs3 := heap_frozen HSZ.out 3
      have r0 := heap_cell HRr.out (j := 0) rfl
      have fr0 := heap_frozen HRr.out 0
      have r1 := heap_cell HRr.out (j := 1) rfl
      have fr1 := heap_frozen HRr.out 1
      have r2 := heap_cell HRr.out (j := 2) rfl
      have fr2 := heap_frozen HRr.out 2
      have r3 := heap_cell HRr.out (j := 3) rfl
      have fr3 := heap_frozen HRr.out 3
      go_wp2_with fail
      refine bodyPost_ret (v := turnV (Pure.turnT k F m G)) (by simp [results, Try.results40, go_sem, r0, r1, r2, r3]; try rfl) rfl ⟨rfl, ?_⟩
      repeat (first | with_reducible exact HBr.out | with_reducible refine Below.setCell ?_ (by first | (simp; done) | (dsimp only; omega)) _)

set_option maxHeartbeats 2000000 in
set_option maxRecDepth 100000 in
theorem heats_any (B : Nat) (h : Int) (a : Option Addr) (n c : Nat) (l : Option Addr) (ln lc : Nat) (F : Nat → Int) (k : Nat) (S : Nat → Int) (hk : k < n) (hn : n ≤ 4) (w : World) (hX : w.heap[B]? = some (dayB h a n c l ln lc)) (hF : NumsAt w a (n * 3) F) :
    Calls Try.prog 41 #[.pointer (some ⟨B, 0, none⟩), .int .i64 k, waitV S] w fun e w' => e = .returned (.bool (S k == F (k * 3 + 1))) ∧ Below w.heap.size w w' := by
  obtain ⟨W, hW⟩ : ∃ W, w.alloc (waitB S) = W := ⟨_, rfl⟩
  have HB : Hid (Below w.heap.size w W) := Lib.hid (by rw [← hW]; exact below_new _ _)
  have HS : Hid (W.heap[w.heap.size]? = some (waitB S)) := Lib.hid (by rw [← hW]; exact heap_top _ _ rfl)
  have HX := Lib.hid (heap_lft hX HB.out)
  have HFr := Lib.hid (hF.below HB.out)
  clear hX hF
  have x1 := heap_cell HX.out (j := 1) rfl
  obtain ⟨g, off, rfl, _⟩ := HFr.out (k * 3) (by omega)
  have c0 := HFr.out.at (show k * 3 < n * 3 by omega)
  have c1 := nums_row HFr.out (show k * 3 + 1 < n * 3 by omega)
  have c2 := nums_row HFr.out (show k * 3 + 2 < n * 3 by omega)
  have n1 : (k : Int) < 4 := by omega
  have n2 : (k : Int) < n := by omega
  have s1 := wait_cell HS.out (show k < 4 by omega)
  go_enter Try.func41, Try.ntmps41
  go_upto_region 1 with fail
  try rw [hW]
  clear hW
  go_region
  go_wp2_with fail
  go_ret
  exact ⟨rfl, HB.out.drew⟩

end Go.Proofs.Yteoakchcomodgaa
